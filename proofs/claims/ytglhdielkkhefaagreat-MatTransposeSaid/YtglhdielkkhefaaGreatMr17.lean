/- Parts: 10. -/
import Derived.Test.YtglhdielkkhefaaGreatMr11
import Derived.Test.YtglhdielkkhefaaGreatMr14
import Derived.Test.YtglhdielkkhefaaGreatMr15
import Derived.Test.YtglhdielkkhefaaGreatMr16
set_option linter.unusedVariables false
set_option linter.unusedSimpArgs false
set_option maxRecDepth 100000
set_option maxHeartbeats 40000000

namespace Go.Proofs.YtglhdielkkhefaaGreat
open Go.RowKit Go.Shelf
attribute [local go_sem] Oper.semAt_some
def sumF (f:Nat->Rat):Nat->Rat
 | 0=>0
 | k+1=>sumF f k+f k
theorem Qm.zero {k:Nat}(hk:0<k):Qm k 0:=⟨Nat.pow_pos (by decide),Sm.one hk⟩
theorem Qm.sumF {f:Nat->Rat}{P:Nat}(hf:∀i,Qm P (f i)):∀k,Qm (k*(P+1)+1) (sumF f k)
 | 0=>Qm.zero (by omega)
 | k+1=>by
  have h:=(Qm.sumF hf k).add (hf k)
  exact h.mono (by rw[Nat.add_mul];omega)
def TotI (W:World)(g:Nat)(t:Rat):Prop:=∃E,Row W g [E]/\Qc W E.a E.b E.c E.d t
theorem TotI.to {W V:World}{g:Nat}{t:Rat}(h:TotI W g t)(hb:Below W.heap.size W V):TotI V g t:=by
 obtain ⟨E,h1,h2⟩:=h
 exact ⟨E,h1.to hb,h2.to hb⟩
theorem TotI.grown {W V:World}{g:Nat}{t:Rat}{row:Option Nat}(h:TotI W g t)(hg:W.grownBy V row)(hr:∀r,row=some r->∃o:Obj,W.heap[r]?=some o/\o.isCells=false):TotI V g t:=by
 obtain ⟨E,h1,h2⟩:=h
 exact ⟨E,h1.grown hg hr,(Kw.grown hg hr).qc h2⟩
theorem dot_f {f:Nat->Rat}{A A':Option Addr}{c c':Nat}{es fs:List E4}{w:World}(hx:Rq w w.heap.size A es)(hy:Rq w w.heap.size A' fs)(qx:∀e∈es,e.fq)(qy:∀e∈fs,e.fq)
  (hx63:es.length<=4398046511104) (hy63:fs.length<=4398046511104)
  (hF:∀(V:World) (E:E4),Below w.heap.size w V->Row V (w.heap.size+1) [E]->∀i,i<max es.length fs.length->Qc V E.a E.b E.c E.d (sumF f i)->Calls Tryz.prog 88 #[(es.getD i E4.z).v,(fs.getD i E4.z).v,.pointer (some ⟨w.heap.size+1,0,none⟩)] V (DotR V (w.heap.size+1) (sumF f (i+1)))) :
  Calls Tryz.prog 46 #[.slice A es.length c,.slice A' fs.length c'] w (QR w (sumF f (max es.length fs.length))):=by
 have HF:=Hd hF
 have HX63:=Hd hx63
 have HY63:=Hd hy63
 have RX:=Hd hx
 have RY:=Hd hy
 have QX:=Hd qx
 have QY:=Hd qy
 clear hF hx hy qx qy
 refine (callsIn_wide (n:=3)).1 ?_
 refine callsIn_of_wp_marks Tryz.func46 rfl trivial ?_ rfl
 simp only[Tryz.ntmps46,List.size_toArray,List.length_cons,List.length_nil,Nat.reduceAdd,Nat.reduceSub,Array.replicate_succ,Array.replicate_zero,List.push_toArray,List.append_toArray,List.nil_append,List.cons_append]
 gi_wp2_with (first
  | (refine ⟨trivial,?_⟩;gi_at_call 92;refine (callsIn_wide.2 (vpairs_any _ _ _ _ _ _ _)).mono ?_;rintro e w' ⟨rfl,rfl⟩))
 obtain ⟨W0,hW0⟩:∃W0,W0=((((w.alloc (.cells #[.bool false,.slice none 0 0,.bool false,.slice none 0 0] 32)).alloc (.cells #[.bool false,.slice none 0 0,.bool false,.slice none 0 0] 32)).alloc (.cells #[.func (.func 88) #[] #[.pointer (some ⟨w.heap.size+1,0,none⟩)]] 85)).alloc (.cells #[.slice A es.length c] 38)).alloc (.cells #[.slice A' fs.length c'] 38):=⟨_,rfl⟩
 have hb0:Below w.heap.size w W0:=by rw[hW0];exact (((((Below.refl _ _).alloc (Nat.le_refl _) _).alloc (by simp) _).alloc (by simp;omega) _).alloc (by simp;omega) _).alloc (by simp;omega) _
 have hR0:Hp W0 (w.heap.size) (.cells #[.bool false,.slice none 0 0,.bool false,.slice none 0 0] 32 (0,0)):=by
  have h:=Hp.new w #[.bool false,.slice none 0 0,.bool false,.slice none 0 0] 32
  rw[hW0];exact ((((h.alloc _).alloc _).alloc _).alloc _)
 have hT0:Hp W0 (w.heap.size+1) (.cells #[.bool false,.slice none 0 0,.bool false,.slice none 0 0] 32 (0,0)):=by
  have h:=Hp.new (w.alloc (.cells #[.bool false,.slice none 0 0,.bool false,.slice none 0 0] 32)) #[.bool false,.slice none 0 0,.bool false,.slice none 0 0] 32
  rw[World.size_alloc]at h
  rw[hW0];exact (((h.alloc _).alloc _).alloc _)
 have hC0:Hp W0 (w.heap.size+1+1) (.cells #[.func (.func 88) #[] #[.pointer (some ⟨w.heap.size+1,0,none⟩)]] 85 (0,0)):=by
  have h:=Hp.new ((w.alloc (.cells #[.bool false,.slice none 0 0,.bool false,.slice none 0 0] 32)).alloc (.cells #[.bool false,.slice none 0 0,.bool false,.slice none 0 0] 32)) #[.func (.func 88) #[] #[.pointer (some ⟨w.heap.size+1,0,none⟩)]] 85
  rw[World.size_alloc,World.size_alloc]at h
  rw[hW0];exact ((h.alloc _).alloc _)
 have hx0:Hp W0 (w.heap.size+1+1+1) (.cells #[.slice A es.length c] 38 (0,0)):=by
  have h:=Hp.new (((w.alloc (.cells #[.bool false,.slice none 0 0,.bool false,.slice none 0 0] 32)).alloc (.cells #[.bool false,.slice none 0 0,.bool false,.slice none 0 0] 32)).alloc (.cells #[.func (.func 88) #[] #[.pointer (some ⟨w.heap.size+1,0,none⟩)]] 85)) #[.slice A es.length c] 38
  rw[World.size_alloc,World.size_alloc,World.size_alloc]at h
  rw[hW0];exact (h.alloc _)
 have hy0:Hp W0 (w.heap.size+1+1+1+1) (.cells #[.slice A' fs.length c'] 38 (0,0)):=by
  have h:=Hp.new ((((w.alloc (.cells #[.bool false,.slice none 0 0,.bool false,.slice none 0 0] 32)).alloc (.cells #[.bool false,.slice none 0 0,.bool false,.slice none 0 0] 32)).alloc (.cells #[.func (.func 88) #[] #[.pointer (some ⟨w.heap.size+1,0,none⟩)]] 85)).alloc (.cells #[.slice A es.length c] 38)) #[.slice A' fs.length c'] 38
  rw[World.size_alloc,World.size_alloc,World.size_alloc,World.size_alloc]at h
  rw[hW0];exact h
 have hP0:PairI w (w.heap.size+1+1+1) (.slice A es.length c) (.slice A' fs.length c') W0:=⟨hx0,hy0,hb0⟩
 have hT0:TotI W0 (w.heap.size+1) (sumF f 0):=⟨E4.z,Row.one hT0 Fq.nil,Zc.zero _,Zc.zero _⟩
 have hs0:W0.heap.size=w.heap.size+1+1+1+1+1:=by rw[hW0];simp
 rw[<-hW0]
 clear hW0 hx0 hy0
 refine wp_roundsB (gf:=115) (lb:=#[.pointer (some ⟨w.heap.size+1+1+1,0,none⟩),.pointer (some ⟨w.heap.size+1+1+1+1,0,none⟩)]) ?hg (enters_of Tryz.func115 (by kernel_rfl) rfl)
  (N:=max es.length fs.length) (enc:=vpairE es fs) (S:=pairS (w.heap.size+1+1+1) (w.heap.size+1+1+1+1) w.heap.size) (pairS_lt (by omega) (by omega) (by omega))
  (fun W hW=>by
   have h:=hP0.to hW
   exact vpairs_gives (w.heap.size+1+1+1) (w.heap.size+1+1+1+1) w.heap.size c c' A A' es fs (by have:=HX63.out;omega) (by have:=HY63.out;omega) W h.bx.one h.by'.one (RX.out.below h.bel) (RY.out.below h.bel) QX.out QY.out)
  ?hps
  (fun k W=>Hp W w.heap.size (.cells #[.bool false,.slice none 0 0,.bool false,.slice none 0 0] 32 (0,0))/\TotI W (w.heap.size+1) (sumF f k)/\Hp W (w.heap.size+1+1) (.cells #[.func (.func 88) #[] #[.pointer (some ⟨w.heap.size+1,0,none⟩)]] 85 (0,0))/\PairI w (w.heap.size+1+1+1) (.slice A es.length c) (.slice A' fs.length c') W)
  (fun k a1 W=>∃p q,a1=⟨#[.slice A es.length c,.slice A' fs.length c',undef,undef,.pointer (some ⟨w.heap.size,0,none⟩),.pointer (some ⟨w.heap.size+1,0,none⟩),.pointer (some ⟨w.heap.size+1+1,0,none⟩),.pointer (some ⟨p,0,none⟩),.pointer (some ⟨q,0,none⟩),.func (.func 88) #[] #[.pointer (some ⟨w.heap.size+1,0,none⟩)],.slice A es.length c,.slice A' fs.length c',.func (.func 115) #[] #[.pointer (some ⟨w.heap.size+1+1+1,0,none⟩),.pointer (some ⟨w.heap.size+1+1+1+1,0,none⟩)],(es.getD k E4.z).v,(fs.getD k E4.z).v,undef,undef,undef,undef,undef],[]⟩/\(Hp W w.heap.size (.cells #[.bool false,.slice none 0 0,.bool false,.slice none 0 0] 32 (0,0))/\TotI W (w.heap.size+1) (sumF f k)/\Hp W (w.heap.size+1+1) (.cells #[.func (.func 88) #[] #[.pointer (some ⟨w.heap.size+1,0,none⟩)]] 85 (0,0))/\PairI w (w.heap.size+1+1+1) (.slice A es.length c) (.slice A' fs.length c') W)/\EHp W p (es.getD k E4.z)/\EHp W q (fs.getD k E4.z))
  (fun _ _ _=>False) ?hI ?hI1 ?hIb ?hIx ⟨hR0,hT0,hC0,hP0⟩ ?assign ?body ?done ?stop
 case hg=>rfl
 case hps=>exact fun _=>rfl
 case hI=>exact fun k W V row h hg hr=>⟨h.1.grown hg (fun r e=>(hr r e).2) rfl,h.2.1.grown hg (fun r e=>(hr r e).2),h.2.2.1.grown hg (fun r e=>(hr r e).2) rfl,h.2.2.2.grown (by omega) hg hr⟩
 case hI1 =>
  rintro ⟨k,a1⟩ W V row ⟨p,q,h1,h2,h3,h4⟩ hg hr
  exact ⟨p,q,h1,⟨h2.1.grown hg (fun r e=>(hr r e).2) rfl,h2.2.1.grown hg (fun r e=>(hr r e).2),h2.2.2.1.grown hg (fun r e=>(hr r e).2) rfl,h2.2.2.2.grown (by omega) hg hr⟩,Hp.grown h3 hg (fun r e=>(hr r e).2) rfl,Hp.grown h4 hg (fun r e=>(hr r e).2) rfl⟩
 case hIb=>exact fun k W V h hb=>⟨h.1.to hb,h.2.1.to hb,h.2.2.1.to hb,h.2.2.2.to hb⟩
 case hIx=>exact fun _ _ _ _ _ h _ _=>h
 case assign =>
  intro l k W K hlt hI hk hK
  have fx:=fq_getD QX.out k
  have fy:=fq_getD QY.out k
  have HK:=Hd hK
  clear hK
  unfold vpairE
  generalize es.getD k E4.z=X at HK fx ⊢
  generalize fs.getD k E4.z=Y at HK fy ⊢
  obtain ⟨x1,x2,x3,x4⟩:=X
  obtain ⟨y1,y2,y3,y4⟩:=Y
  obtain ⟨⟨n1,A1,j1,m1,e1,e2⟩,⟨n2,A2,j2,m2,e3,e4⟩⟩:=fx
  obtain ⟨⟨n3,A3,j3,m3,e5,e6⟩,⟨n4,A4,j4,m4,e7,e8⟩⟩:=fy
  dsimp only at e1 e2 e3 e4 e5 e6 e7 e8
  subst e1 e2 e3 e4 e5 e6 e7 e8
  simp only[E4.v]
  simp only[E4.v]at HK
  gi_wp2
  have hbb:Below W.heap.size W ((W.alloc (.cells #[.bool n1,.slice A1 j1 m1,.bool n2,.slice A2 j2 m2] 32)).alloc (.cells #[.bool n3,.slice A3 j3 m3,.bool n4,.slice A4 j4 m4] 32)):=((Below.refl _ _).alloc (Nat.le_refl _) _).alloc (by simp) _
  refine HK.out _ _ hbb ⟨_,_,rfl,⟨hI.1.to hbb,hI.2.1.to hbb,hI.2.2.1.to hbb,hI.2.2.2.to hbb⟩,(Hp.new _ _ _).alloc _,?_⟩
  have h:=Hp.new (W.alloc (.cells #[.bool n1,.slice A1 j1 m1,.bool n2,.slice A2 j2 m2] 32)) #[.bool n3,.slice A3 j3 m3,.bool n4,.slice A4 j4 m4] 32
  rw[World.size_alloc]at h
  exact h
 case body =>
  rintro l k a1 W hlt ⟨p,q,rfl,⟨hR,hT,hC,hP⟩,hp,hq⟩ hk
  have hbW:=hP.bel
  have HFK0:=Hd fun (V:World) (hV:Below w.heap.size w V) (E:E4) (hE:Row V (w.heap.size+1) [E]) (qE:Qc V E.a E.b E.c E.d (sumF f k))=>HF.out V E hV hE k hk qE
  obtain ⟨E,hE,qE⟩:=hT
  have HFK:=Hd (HFK0.out W hbW E hE qE)
  clear HFK0
  obtain ⟨X,hX⟩:∃X,es.getD k E4.z=X:=⟨_,rfl⟩
  obtain ⟨Y,hY⟩:∃Y,fs.getD k E4.z=Y:=⟨_,rfl⟩
  rw[hX]at hp HFK ⊢
  rw[hY]at hq HFK ⊢
  clear hX hY
  obtain ⟨x1,x2,x3,x4⟩:=X
  obtain ⟨y1,y2,y3,y4⟩:=Y
  simp only[E4.v]at HFK ⊢
  have c0:=(Hp.four hp).c0
  have c1:=(Hp.four hp).c1
  have c2:=(Hp.four hp).c2
  have c3:=(Hp.four hp).c3
  have d0:=(Hp.four hq).c0
  have d1:=(Hp.four hq).c1
  have d2:=(Hp.four hq).c2
  have d3:=(Hp.four hq).c3
  dsimp only at c0 c1 c2 c3 d0 d1 d2 d3
  have HR:=Hd hR
  have HC:=Hd hC
  have HP:=Hd hP
  have cC:=hC.one
  have HS:Hid (w.heap.size+1+1+1+1+1<W.heap.size):=by show _<_;omega
  clear hp hq hR hC hP HF hP0 hR0 hT0 hC0 RX RY QX QY hk hE qE
  gi_wp2_with (refine ⟨trivial,?_⟩;gi_at_call 88;refine (CallsIn.inRound l (callsIn_wide.2 HFK.out)).mono ?_;rintro e V ⟨⟨v,rfl⟩,E2,hE2,qE2,hsz,hoth,hbel⟩)
  have hS:=HS.out
  refine ⟨⟨hsz,fun j o hB hj _=>(hoth j (Array.getElem?_eq_some_iff.1 hj).1 (by omega)).trans hj⟩,KeepAt.of fun p hp=>hoth _ ?_ ?_,?_,⟨E2,hE2,qE2⟩,?_,?_,?_,?_⟩
  .exact pairS_lt (S:=W.heap.size) (by omega) (by omega) (by omega) p hp
  .rcases hp with rfl|rfl|hp
   .show w.heap.size+1+1+1≠w.heap.size+1;omega
   .show w.heap.size+1+1+1+1≠w.heap.size+1;omega
   .omega
  .exact (hoth _ (by omega) (by omega)).trans HR.out
  .exact (hoth _ (by omega) (by omega)).trans HC.out
  .exact (hoth _ (by omega) (by omega)).trans HP.out.bx
  .exact (hoth _ (by omega) (by omega)).trans HP.out.by'
  .exact HP.out.bel.trans (hbel _ (by omega))
 case done =>
  rintro W ⟨hR,⟨E,hE,qE⟩,hC,hP⟩ hK
  rw[hs0]at hK
  have r1:=Row.one hR Fq.nil
  have hf:E.fq:=hE.fq E (by simp)
  have hne:(w.heap.size+1+1+1+1+1)≠w.heap.size:=by omega
  have h4:=hE.four
  obtain ⟨e1,e2,e3,e4⟩:=E
  have c0:=h4.c0
  have c1:=h4.c1
  have c2:=h4.c2
  have c3:=h4.c3
  dsimp only at c0 c1 c2 c3
  have R1:=Hd r1
  have QF:=Hd hf
  have hK':=(setRow_other W w.heap.size _ (flat ([⟨e1,e2,e3,e4⟩]:List E4)).toArray hne).trans hK
  have h5:Row (W.setRow w.heap.size (flat ([⟨e1,e2,e3,e4⟩]:List E4)).toArray) w.heap.size [⟨e1,e2,e3,e4⟩]:=r1.app (n:=0) (e:=⟨e1,e2,e3,e4⟩) hf
  have kw:Kw W (W.setRow w.heap.size (flat ([⟨e1,e2,e3,e4⟩]:List E4)).toArray):=r1.kw
  have hgp:=grownBy_putObj' (W.setRow w.heap.size (flat ([⟨e1,e2,e3,e4⟩]:List E4)).toArray) (w.heap.size+1+1+1+1+1) (.deferred none)
  have hgr:∀r,some (w.heap.size+1+1+1+1+1)=some r->∃o:Obj,(W.setRow w.heap.size (flat ([⟨e1,e2,e3,e4⟩]:List E4)).toArray).heap[r]?=some o/\o.isCells=false:=fun r e=>by cases e;exact ⟨_,hK',rfl⟩
  have H6:=Hd (h5.grown hgp hgr).four
  have HE:Hid (QR w (sumF f (max es.length fs.length)) (.returned (.agg #[e1,e2,e3,e4])) ((W.setRow w.heap.size (flat ([⟨e1,e2,e3,e4⟩]:List E4)).toArray).putObj (w.heap.size+1+1+1+1+1) (.deferred none))) :=
   ⟨e1,e2,e3,e4,rfl,(Kw.grown hgp hgr).qc (kw.qc qE),(below_setRow hP.bel (Nat.le_refl _) _).grown hgp (by rw[setRow_size];exact hP.bel.size) (fun k e=>by cases e;omega)⟩
  have HK':=Hd hK'
  clear hE hC hP hb0 hP0 hR0 hT0 hC0 qE h4 hK hgp hgr kw h5 hR r1 hK' hf
  gi_wp2_with (refine wpListIn_storeq (k:=0) (e:=⟨e1,e2,e3,e4⟩) rfl (.tmp 4) (.tmp 19) rfl (by rfl) (by rfl) R1.out (by simp) QF.out ?_;clear R1)
  refine ⟨by simp,.inl ⟨_,_,rfl,run_takeDeferred HK'.out,?_⟩⟩
  refine ⟨.agg #[e1,e2,e3,e4],?_,HE.out⟩
  have u0:=H6.out.c0
  have u1:=H6.out.c1
  have u2:=H6.out.c2
  have u3:=H6.out.c3
  simp[results,Tryz.f46,go_sem,u0,u1,u2,u3]
 case stop=>exact fun _ _ _ _ h _=>h.elim
def dotQ (rs ss:List Rat):Rat:=sumF (fun i=>rs.getD i 0*ss.getD i 0) (max rs.length ss.length)
theorem vdot_v {w:World}{A A':Option Addr}{c c':Nat}{es fs:List E4}{rs ss:List Rat}{k l:Nat}(hA:Vi w A c es rs k)(hB:Vi w A' c' fs ss l)(hk:0<k)(hl:0<l)(h1:rs.length<=4398046511104)(h2:ss.length<=4398046511104)
  (hN:(max rs.length ss.length)*(k+l+1)+1+(k+l)+1<=10000) :
  Calls Tryz.prog 46 #[.slice A rs.length c,.slice A' ss.length c'] w (QR w (dotQ rs ss)):=by
 have hm:∀i,Qm (k+l) (rs.getD i 0*ss.getD i 0):=fun i=>((hA.el i).qm hk).mul ((hB.el i).qm hl)
 have h:=dot_f (f:=fun i=>rs.getD i 0*ss.getD i 0) (c:=c) (c':=c') hA.row hB.row hA.fq hB.fq (by rw[hA.len];exact h1) (by rw[hB.len];exact h2) (fun V E hV hE i hi qE=>by
  rw[hA.len,hB.len]at hi
  have hi2:i*(k+l+1)<=(max rs.length ss.length)*(k+l+1):=Nat.mul_le_mul_right _ (by omega)
  exact dot1_v hE qE ((hA.el i).to hV) ((hB.el i).to hV) (Qm.sumF hm i) hk hl (by omega) (by omega))
 rw[hA.len,hB.len]at h
 exact h
end Go.Proofs.YtglhdielkkhefaaGreat

namespace Go.Proofs.YtglhdielkkhefaaGreat
open Go.RowKit Go.Shelf
theorem Vi.qm {W:World}{A:Option Addr}{c:Nat}{es:List E4}{rs:List Rat}{k:Nat}(h:Vi W A c es rs k)(hk:0<k)(i:Nat):Qm k (rs.getD i 0):=(h.el i).qm hk
def sumV (rs:Nat->List Rat):Nat->List Rat
 | 0=>[]
 | k+1=>ptw (fun r s=>r+s) (sumV rs k) (rs k)
theorem sumV_succ (rs:Nat->List Rat)(k:Nat):sumV rs (k+1)=ptw (fun r s=>r+s) (sumV rs k) (rs k):=rfl
theorem sumV_getD (rs:Nat->List Rat)(i:Nat):∀k,(sumV rs k).getD i 0=sumF (fun j=>(rs j).getD i 0) k
 | 0=>rfl
 | k+1=>by
  rw[sumV_succ,ptw_getD (by decide +kernel),sumV_getD rs i k]
  rfl
theorem sumV_qm {rs:Nat->List Rat}{m:Nat}(h:∀k i,Qm m ((rs k).getD i 0))(k i:Nat):Qm (k*(m+1)+1) ((sumV rs k).getD i 0):=by
 rw[sumV_getD]
 exact Qm.sumF (fun j=>h j i) k
theorem sumV_len {rs:Nat->List Rat}{M:Nat}(h:∀k,(rs k).length<=M):∀k,(sumV rs k).length<=M
 | 0=>Nat.zero_le _
 | k+1=>by
  rw[sumV_succ,ptw_length]
  have:=sumV_len h k
  have:=h k
  omega
structure SumIn (W:World)(P:Option Addr)(N:Nat)(As:Nat->Option Addr)(cs:Nat->Nat)(es:Nat->List E4)(rs:Nat->List Rat)(m:Nat):Prop where
 cell:∀k,k<N->∃b o,P=some ⟨b,o,none⟩/\W.cell? ⟨b,o+k,none⟩=some (.slice (As k) (rs k).length (cs k))
 vec:∀k,k<N->Vi W (As k) (cs k) (es k) (rs k) m
def midF (S a:Nat->Rat)(j:Nat)(i:Nat):Rat:=if i<j then S i+a i else S i
theorem TotV.sl {W:World}{v:Value}{n:Nat}{f:Nat->Rat}{B:Nat}(h:TotV W v n f B):∃A c,v=.slice A n c:=by
 rcases h with ⟨rfl,rfl⟩|⟨g,cap,fl,rfl,_⟩
 .exact ⟨_,_,rfl⟩
 .exact ⟨_,_,rfl⟩
theorem TotV.row {W:World}{A:Option Addr}{n c:Nat}{f:Nat->Rat}{B:Nat}(h:TotV W (.slice A n c) n f B)(hn:n≠0):∃g fl,A=some ⟨g,0,none⟩/\B<=g/\Row W g fl/\fl.length=c/\n<=c/\c<=9223372036854775807 /\
  (∀i,i<n->Qc W (fl.getD i E4.z).a (fl.getD i E4.z).b (fl.getD i E4.z).c (fl.getD i E4.z).d (f i))/\∀i,n<=i->fl.getD i E4.z=E4.z:=by
 rcases h with ⟨h0,_⟩|⟨g,cap,fl,h1,h2⟩
 .exact absurd h0 hn
 .cases h1
  exact ⟨g,fl,rfl,h2⟩
theorem TotV.set {W:World}{n j:Nat}{S a:Nat->Rat}{B g c:Nat}{fl:List E4}(hg:B<=g)(h1:Row W g fl)(h2:fl.length=c)(hn:n<=c)(hc:c<=9223372036854775807)
  (h3:∀i,i<n->Qc W (fl.getD i E4.z).a (fl.getD i E4.z).b (fl.getD i E4.z).c (fl.getD i E4.z).d (midF S a j i)) (h4:∀i,n<=i->fl.getD i E4.z=E4.z) (hj:j<n) {e:E4} (he:e.fq) (hq:Qc W e.a e.b e.c e.d (S j+a j)) :
  TotV (W.setRow g (flat (fl.set j e)).toArray) (.slice (some ⟨g,0,none⟩) n c) n (midF S a (j+1)) B:=by
 have kw:Kw W (W.setRow g (flat (fl.set j e)).toArray):=h1.kw
 refine .inr ⟨g,c,fl.set j e,rfl,hg,h1.app he,by simpa using h2,hn,hc,fun i hi=>?_,fun i hi=>?_⟩
 .by_cases hij:i=j
  .subst hij
   rw[show (fl.set i e).getD i E4.z=e from by simp[List.getD,show i<fl.length by omega],show midF S a (i+1) i=S i+a i from by unfold midF;rw[if_pos (by omega)]]
   exact kw.qc hq
  .rw[show (fl.set j e).getD i E4.z=fl.getD i E4.z from by simp[List.getD,List.getElem?_set,Ne.symm hij],show midF S a (j+1) i=midF S a j i from by unfold midF;have e:(i<j+1)=(i<j):=propext (by omega);simp only[e]]
   exact kw.qc (h3 i hi)
 .rw[show (fl.set j e).getD i E4.z=fl.getD i E4.z from by simp[List.getD,List.getElem?_set,show j≠i by omega]]
  exact h4 i hi
theorem TotV.vr {w W:World}{A:Option Addr}{c:Nat}{rs:List Rat}(h:TotV W (.slice A rs.length c) rs.length (fun i=>rs.getD i 0) w.heap.size)(hl:rs.length<=4398046511104)(hb:Below w.heap.size w W):VR w rs (.returned (.slice A rs.length c)) W:=by
 by_cases h0:rs.length=0
 .obtain rfl:rs=[]:=List.length_eq_zero_iff.1 h0
  rcases h with ⟨_,h⟩|⟨g,cap,fl,h1,h2,h3,h4,h5,h6,h7,h8⟩
  .cases h
   exact ⟨none,0,[],rfl,Vc.nil W (by decide),hb⟩
  .cases h1
   exact ⟨_,c,[],rfl,Vc.nil W h6,hb⟩
 .obtain ⟨g,fl,rfl,h2,h3,h4,h5,h6,h7,h8⟩:=h.row h0
  refine ⟨_,c,fl.take rs.length,rfl,⟨h3.rq _,by rw[List.length_take];omega,fun i=>?_,fun e he=>h3.fq e (List.mem_of_mem_take he),by rw[List.length_take];omega,h6⟩,hb⟩
  by_cases hi:i<rs.length
  .rw[show (fl.take rs.length).getD i E4.z=fl.getD i E4.z from by simp[List.getD,List.getElem?_take,hi]]
   exact h7 i hi
  .rw[getD_ge (l:=rs) (by omega),getD_ge (l:=fl.take rs.length) (by rw[List.length_take];omega)]
   exact ⟨Zc.zero _,Zc.zero _⟩
theorem infoS : (Tryz.prog.info? 38).map (fun i=>(i.zero,i.size,i.bytes))=some (some (.slice none 0 0),1,24):=by kernel_rfl
theorem zero_s (m:Nat):Builtin.zeroCells (.slice none 0 0:Value).cells m=(List.replicate m (.slice none 0 0:Value)).toArray:=by
 show madeCells (.slice none 0 0:Value).cells (m*1)=_
 apply Array.ext'
 apply List.ext_getElem?
 intro j
 unfold madeCells
 have hs:((.slice none 0 0:Value).cells)=#[.slice none 0 0]:=rfl
 rw[hs]
 by_cases h:j<m
 .simp[h,Nat.mod_one]
 .simp[h]
def IsS (v:Value):Prop:=∃A n c,v=.slice A n c
structure RowS (W:World)(g:Nat)(fl:List Value):Prop where
 heap:W.heap[g]?=some (.cells fl.toArray 38 (0,0))
 sl:∀v∈fl,IsS v
section
variable {W V : World} {g : Nat} {fl : List Value}
theorem RowS.lt (h:RowS W g fl):g<W.heap.size:=(Array.getElem?_eq_some_iff.1 h.heap).1
theorem RowS.to (h:RowS W g fl)(hb:Below W.heap.size W V):RowS V g fl:=⟨(hb.block g h.lt).trans h.heap,h.sl⟩
theorem RowS.slice (h:RowS W g fl){p:Addr}(hp:p.block=g){v:Value}(hc:W.cell? p=some v):IsS v:=by
 obtain ⟨b,j,f⟩:=p
 obtain rfl:b=g:=hp
 unfold World.cell? at hc
 simp only[h.heap]at hc
 cases f with
 | none=>simp at hc;exact h.sl _ (List.mem_of_getElem? hc)
 | some f=>simp at hc
theorem RowS.kw (h:RowS W g fl){cs:Array Value} : Kw W (W.setRow g cs):=by
 refine ⟨by simp[World.setRow],fun p n hp=>?_⟩
 have hne:p.block≠g:=fun e=>by
  obtain ⟨A,m,c,e2⟩:=h.slice e hp
  cases e2
 rw[World.cell?_of_block (setRow_other W g p.block cs hne)]
 exact hp
theorem RowS.rq (h:RowS W g fl){cs:Array Value}{B:Nat}{A:Option Addr}{es:List E4}(hr:Rq W B A es)(hf:∀e∈es,e.fq):Rq (W.setRow g cs) B A es:=fun k hk=>by
 obtain ⟨b,o,e,hb,h0,h1,h2,h3⟩:=hr k hk
 obtain ⟨⟨n1,A1,j1,m1,e1,e2⟩,_⟩:=hf _ (List.getElem_mem hk)
 have hne:b≠g:=fun e3=>by
  obtain ⟨A,m,c,e4⟩:=h.slice (p:=⟨b,_,none⟩) e3 h0
  rw[e1]at e4
  cases e4
 have hw:∀p:Addr,p.block=b->(W.setRow g cs).cell? p=W.cell? p:=fun p hp=>World.cell?_of_block (setRow_other W g p.block cs (by rw[hp];exact hne))
 exact ⟨b,o,e,hb,(hw ⟨b,_,none⟩ rfl).trans h0,(hw ⟨b,_,none⟩ rfl).trans h1,(hw ⟨b,_,none⟩ rfl).trans h2,(hw ⟨b,_,none⟩ rfl).trans h3⟩
theorem RowS.vc (h:RowS W g fl){cs:Array Value}{A:Option Addr}{c:Nat}{es:List E4}{rs:List Rat}(hv:Vc W A c es rs):Vc (W.setRow g cs) A c es rs :=
 ⟨by rw[setRow_size];exact h.rq hv.row hv.fq,hv.len,fun i=>h.kw.qc (hv.el i),hv.fq,hv.cap,hv.c63⟩
theorem RowS.app (h:RowS W g fl){n:Nat}{x:Value}(hx:IsS x):RowS (W.setRow g (fl.set n x).toArray) g (fl.set n x) :=
 ⟨setRow_heap W g _ _ _ _ h.heap,fun v hv=>by
  rcases List.mem_or_eq_of_mem_set hv with hv|rfl
  .exact h.sl v hv
  .exact hx⟩
end
def TotS (P:World->Nat->Value->Prop)(W:World)(v:Value)(n B:Nat):Prop :=
 (n=0/\v=.slice none 0 0)∨∃g cap fl,v=.slice (some ⟨g,0,none⟩) n cap/\B<=g/\RowS W g fl/\fl.length=cap/\n<=cap/\cap<=9223372036854775807/\∀i,i<n->P W i (fl.getD i (.slice none 0 0))
theorem TotS.sl {P:World->Nat->Value->Prop}{W:World}{v:Value}{n B:Nat}(h:TotS P W v n B):∃A c,v=.slice A n c:=by
 rcases h with ⟨rfl,rfl⟩|⟨g,cap,fl,rfl,_⟩
 .exact ⟨_,_,rfl⟩
 .exact ⟨_,_,rfl⟩
theorem tot_rows {P:World->Nat->Value->Prop}{W:World}{g B n:Nat}{fl:List Value}(hg:B<=g)(h:RowS W g fl)(hn:n<=fl.length)(hc:fl.length<=9223372036854775807)
  (hq:∀i,i<n->P W i (fl.getD i (.slice none 0 0))):TotS P W (.slice (some ⟨g,0,none⟩) n fl.length) n B:=.inr ⟨g,fl.length,fl,rfl,hg,h,rfl,hn,hc,hq⟩
theorem grown_rows {W:World}{n C:Nat}{es:List Value}{e:Value}(he:IsS e)(hes:∀x∈es,IsS x)(hl:es.length=n)(hC:n+1<=C) :
  (es++e::List.replicate (C-(n+1)) (.slice none 0 0)).toArray=((es++[e]).toArray++Builtin.zeroCells (.slice none 0 0:Value).cells (C-(n+1))) /\
  RowS (W.alloc (.cells (es++e::List.replicate (C-(n+1)) (.slice none 0 0)).toArray 38)) W.heap.size (es++e::List.replicate (C-(n+1)) (.slice none 0 0))/\(es++e::List.replicate (C-(n+1)) (.slice none 0 0)).length=C:=by
 refine ⟨?_,⟨World.alloc_heap_new W _,fun x hx=>?_⟩,by simp;omega⟩
 .rw[zero_s]
  apply Array.ext'
  simp
 .rcases List.mem_append.1 hx with hx|hx
  .exact hes x hx
  .rcases List.mem_cons.1 hx with rfl|hx
   .exact he
   .rw[List.eq_of_mem_replicate hx];exact ⟨_,_,_,rfl⟩
structure KeptS (P:World->Nat->Value->Prop):Prop where
 to:∀{W V:World} {i:Nat} {v:Value},Below W.heap.size W V->P W i v->P V i v
 set:∀{W:World} {g:Nat} {fl:List Value} {cs:Array Value} {i:Nat} {v:Value},RowS W g fl->P W i v->P (W.setRow g cs) i v
theorem TotS.mv {P:World->Nat->Value->Prop}(hP:KeptS P){W V:World}{v:Value}{n B:Nat}(h:TotS P W v n B)(hb:Below W.heap.size W V):TotS P V v n B:=by
 rcases h with h|⟨g,cap,fl,h1,h2,h3,h4,h5,h6,h7⟩
 .exact .inl h
 .exact .inr ⟨g,cap,fl,h1,h2,h3.to hb,h4,h5,h6,fun i hi=>hP.to hb (h7 i hi)⟩
theorem sapp {P:World->Nat->Value->Prop}(hP:KeptS P){W:World}{v:Value}{n:Nat}{B:Nat}(h:TotS P W v n B)(hB:B<=W.heap.size)(hl:n+1<=1000000){x:Value}(hx:IsS x)(hq:P W n x){a:Addr}{c:Nat}
  (h0:W.cell? (a.add 0)=some x) (ty:TypeId) :
  ∃v' W',(Builtin.append_ #[22,22] ty #[v,.slice (some a) 1 c]).run Tryz.prog W=.ok v' W'/\TotS P W' v' (n+1) B/\Below B W W':=by
 obtain ⟨i0,hi,hz0,hz1,hz2⟩:=info_parts infoS
 have hnews:∀j u,[x][j]?=some u->W.cell? (a.add j)=some u:=fun j u hj=>by
  match j,hj with
  | 0,hj=>simp at hj;subst hj;exact h0
 have here:∀(es:List Value) (k:Nat),es.length=n->(es++x::List.replicate k (.slice none 0 0)).getD n (.slice none 0 0)=x:=fun es k hes=>by
  simp[List.getD,List.getElem?_append,hes]
 rcases h with ⟨rfl,rfl⟩|⟨g,cap,fl,rfl,hg,hr,rfl,hn,hc,hqs⟩
 .have hrun:=run_append_nil (P:=Tryz.prog) (w:=W) 22 ty 38 i0 _ Tryz.underlying22 hi hz0 a 1 c [x] (by rw[hz1];rfl) hnews (by decide) (by decide) (by rw[hz2];decide)
  have hge:=grownCap_ge W 1 0 38
  have hle:=grownCap_le_maxLen W 1 0 38 (by unfold maxLen;omega)
  unfold maxLen at hle
  obtain ⟨C,hC⟩:∃C,grownCap W 1 0 38=C:=⟨_,rfl⟩
  rw[hC]at hrun hge hle
  obtain ⟨g1,g2,g3⟩:=grown_rows (W:=W.drew) (n:=0) (C:=C) (es:=[]) hx (fun x hx=>by cases hx) rfl hge
  have hrun':(Builtin.append_ #[22,22] ty #[.slice none 0 0,.slice (some a) 1 c]).run Tryz.prog W=.ok (.slice (some ⟨W.heap.size,0,none⟩) 1 C) (W.drew.alloc (.cells ([]++x::List.replicate (C-(0+1)) (.slice none 0 0)).toArray 38)):=by
   rw[g1]
   exact hrun
  have hbb:Below W.heap.size W (W.drew.alloc (.cells ([]++x::List.replicate (C-(0+1)) (.slice none 0 0)).toArray 38)):=((Below.refl _ W).drew).alloc (Nat.le_refl _) _
  refine ⟨_,_,hrun',?_,hbb.mono hB⟩
  have ht:=tot_rows (P:=P) (n:=1) (B:=B) (g:=W.heap.size) hB g2 (by rw[g3];exact hge) (by rw[g3];omega) (fun i hi=>by
   obtain rfl:i=0:=by omega
   rw[here [] _ rfl]
   exact hP.to hbb hq)
  rw[g3]at ht
  exact ht
 .by_cases hroom:n<fl.length
  .have hrun:=run_append_room (P:=Tryz.prog) W 22 ty 38 i0 Tryz.underlying22 hi g n fl.length _ hr.heap a 1 c [x] (by rw[hz1];rfl) hnews
    (fun u hu=>by rw[List.mem_singleton.1 hu];obtain ⟨A,m,d,rfl⟩:=hx;rfl) (by omega) (by rw[hz1];simp;omega)
   rw[hz1]at hrun
   have e1:fl.set n x=fl.take n++x::fl.drop (n+1):=by
    rw[List.set_eq_take_append_cons_drop,if_pos hroom]
   have hrun':(Builtin.append_ #[22,22] ty #[.slice (some ⟨g,0,none⟩) n fl.length,.slice (some a) 1 c]).run Tryz.prog W=.ok (.slice (some ⟨g,0,none⟩) (n+1) fl.length) (W.setRow g (fl.set n x).toArray):=by
    rw[hrun,e1]
    simp
   refine ⟨_,_,hrun',?_,below_setRow (Below.refl _ _) hg _⟩
   have ht:=tot_rows (P:=P) (n:=n+1) (B:=B) hg (hr.app (n:=n) hx) (by rw[List.length_set];omega) (by rw[List.length_set];exact hc) (fun i hi=>by
    by_cases hin:i=n
    .subst hin
     rw[show (fl.set i x).getD i (.slice none 0 0)=x from by simp[List.getD,hroom]]
     exact hP.set hr hq
    .rw[show (fl.set n x).getD i (.slice none 0 0)=fl.getD i (.slice none 0 0) from by simp[List.getD,List.getElem?_set,Ne.symm hin]]
     exact hP.set hr (hqs i (by omega)))
   rwa [List.length_set]at ht
  .obtain rfl:n=fl.length:=by omega
   have holds:∀j u,fl[j]?=some u->W.cell? ((⟨g,0,none⟩:Addr).add j)=some u:=fun j u hj=>by
    unfold Addr.add
    by_cases hj0:j=0
    .subst hj0;simpa [World.cell?,hr.heap]using hj
    .simpa [hj0,World.cell?,hr.heap]using hj
   have hrun:=run_append_grow (P:=Tryz.prog) (w:=W) 22 ty 38 i0 _ Tryz.underlying22 hi hz0 ⟨g,0,none⟩ fl.length fl.length fl (by rw[hz1];simp) holds a 1 c [x] (by rw[hz1];rfl) hnews (by omega) (by omega)
    (by rw[hz2];exact growslice_fits (by omega) (by omega))
   have hge:=grownCap_ge W (fl.length+1) fl.length 38
   have hle:=grownCap_le_maxLen W (fl.length+1) fl.length 38 (by unfold maxLen;omega)
   unfold maxLen at hle
   obtain ⟨C,hC⟩:∃C,grownCap W (fl.length+1) fl.length 38=C:=⟨_,rfl⟩
   rw[hC]at hrun hge hle
   obtain ⟨g1,g2,g3⟩:=grown_rows (W:=W.drew) (n:=fl.length) (C:=C) (es:=fl) hx hr.sl rfl hge
   have hrun':(Builtin.append_ #[22,22] ty #[.slice (some ⟨g,0,none⟩) fl.length fl.length,.slice (some a) 1 c]).run Tryz.prog W=.ok (.slice (some ⟨W.heap.size,0,none⟩) (fl.length+1) C) (W.drew.alloc (.cells (fl++x::List.replicate (C-(fl.length+1)) (.slice none 0 0)).toArray 38)):=by
    rw[g1,show (fl++[x]).toArray=fl.toArray++[x].toArray from by simp]
    exact hrun
   have hbb:Below W.heap.size W (W.drew.alloc (.cells (fl++x::List.replicate (C-(fl.length+1)) (.slice none 0 0)).toArray 38)):=((Below.refl _ W).drew).alloc (Nat.le_refl _) _
   refine ⟨_,_,hrun',?_,hbb.mono hB⟩
   have ht:=tot_rows (P:=P) (n:=fl.length+1) (B:=B) (g:=W.heap.size) hB g2 (by rw[g3];exact hge) (by rw[g3];omega) (fun i hi=>by
    by_cases hin:i=fl.length
    .subst hin
     rw[here fl _ rfl]
     exact hP.to hbb hq
    .rw[show (fl++x::List.replicate (C-(fl.length+1)) (.slice none 0 0)).getD i (.slice none 0 0)=fl.getD i (.slice none 0 0) from by simp[List.getD,List.getElem?_append,show i<fl.length by omega]]
     exact hP.to hbb (hqs i (by omega)))
   rw[g3]at ht
   exact ht
def zrow (c:Nat):Array Value:=(List.replicate c (.slice none 0 0:Value)).toArray
theorem make_s (W:World)(n c:Nat)(hn:n<=c)(hc:c<=4398046511104) :
  (Instr.makeSlice 22 (.int .i64 (n:Int)) (.int .i64 (c:Int))).run Tryz.prog W=.ok (.slice (some ⟨W.heap.size,0,none⟩) n c) (W.alloc (.cells (zrow c) 38)):=by
 obtain ⟨i0,hi,hz0,hz1,hz2⟩:=info_parts infoS
 have h:=run_make W 22 38 i0 _ Tryz.underlying22 hi hz0 .i64 .i64 n c (by omega) (by omega) (by rw[hz2];omega) (by omega)
 rw[hz1,Int.toNat_natCast,Int.toNat_natCast]at h
 rw[h]
 unfold zrow
 rw[<-zero_s]
 rfl
theorem wpList_makes (w:World){ops:Array Oper}{rest:List Oper}{o:Oper}{a:Act}{Q:Exit->Act->World->Prop}
  (hg:o.guard=none) (l c:Operand) (hop:o.op=Op.makeSlice 22 l c) (N C:Nat) {L D:Int} (hl:a.eval l=.int .i64 L) (hc:a.eval c=.int .i64 D) (hL:L=(N:Int)) (hC:D=(C:Int)) (h1:N<=C) (h2:C<=4398046511104)
  (hK:wpList Tryz.prog ops Q rest (a.put o.dst (.slice (some ⟨w.heap.size,0,none⟩) N C)) (w.alloc (.cells (zrow C) 38))) :
  wpList Tryz.prog ops Q (o::rest) a w:=by
 refine wpList_plain hg fun K hK'=>?_
 have hrun:=make_s w N C h1 h2
 subst hL
 subst hC
 unfold Oper.wp
 simp[execOp,hop,hl,hc,hrun,Result.andThen]
 exact hK' _ _ hK
theorem TotS.new {P:World->Nat->Value->Prop}{W:World}{N B:Nat}(hB:B<=W.heap.size)(hN:N<=9223372036854775807):TotS P (W.alloc (.cells (zrow N) 38)) (.slice (some ⟨W.heap.size,0,none⟩) 0 N) 0 B :=
 .inr ⟨W.heap.size,N,List.replicate N (.slice none 0 0),rfl,hB,⟨World.alloc_heap_new W _,fun v hv=>by rw[List.eq_of_mem_replicate hv];exact ⟨_,_,_,rfl⟩⟩,by simp,Nat.zero_le _,hN,fun i hi=>absurd hi (Nat.not_lt_zero _)⟩
theorem TotV.new {W:World}{N B:Nat}{f:Nat->Rat}(hB:B<=W.heap.size)(hN:N<=9223372036854775807):TotV (W.alloc (.cells (flat (List.replicate N E4.z)).toArray 32)) (.slice (some ⟨W.heap.size,0,none⟩) 0 N) 0 f B :=
 .inr ⟨W.heap.size,N,List.replicate N E4.z,rfl,hB,Row.new W N,by simp,Nat.zero_le _,hN,fun i hi=>absurd hi (Nat.not_lt_zero _),fun i _=>by by_cases h:i<N<;>simp[List.getD,List.getElem?_replicate,h]⟩
def tab (N:Nat)(g:Nat->Rat):List Rat:=(List.range N).map g
theorem tab_length (N:Nat)(g:Nat->Rat):(tab N g).length=N:=by simp[tab]
theorem tab_getD {N i:Nat}(g:Nat->Rat)(h:i<N):(tab N g).getD i 0=g i:=by simp[tab,List.getD,h]
theorem tab_ge {N i:Nat}(g:Nat->Rat)(h:N<=i):(tab N g).getD i 0=0:=getD_ge (by rw[tab_length];exact h)
theorem TotV.vtab {w W:World}{A:Option Addr}{N c:Nat}{g:Nat->Rat}(h:TotV W (.slice A N c) N g w.heap.size)(hl:N<=4398046511104)(hb:Below w.heap.size w W):VR w (tab N g) (.returned (.slice A N c)) W:=by
 obtain ⟨l,h2⟩:∃l,tab N g=l:=⟨_,rfl⟩
 have e:l.length=N:=by rw[<-h2,tab_length]
 rw[h2]
 subst e
 refine (h.congr (f':=fun i=>l.getD i 0) (fun i hi=>?_)).vr hl hb
 rw[<-h2,tab_length]at hi
 rw[<-h2]
 exact (tab_getD g hi).symm
def colsN (rs:Nat->List Rat):Nat->Nat
 | 0=>0
 | k+1=>max (colsN rs k) (rs k).length
theorem colsN_ge (rs:Nat->List Rat):∀{N k:Nat},k<N->(rs k).length<=colsN rs N
 | 0,_,h=>absurd h (Nat.not_lt_zero _)
 | N+1,k,h=>by
  by_cases hk:k=N
  .subst hk;exact Nat.le_max_right _ _
  .exact Nat.le_trans (colsN_ge rs (by omega)) (Nat.le_max_left _ _)
theorem colsN_le {rs:Nat->List Rat}{M:Nat} : ∀{N:Nat},(∀k,k<N->(rs k).length<=M)->colsN rs N<=M
 | 0,_=>Nat.zero_le _
 | N+1,h=>Nat.max_le.2 ⟨colsN_le (fun k hk=>h k (by omega)),h N (by omega)⟩
structure Mc (W:World)(P:Option Addr)(N C:Nat)(rs:Nat->List Rat):Prop where
 row:∀k,k<N->∃b o A c es,P=some ⟨b,o,none⟩/\b<W.heap.size/\W.cell? ⟨b,o+k,none⟩=some (.slice A (rs k).length c)/\Vc W A c es (rs k)
 n63:N<=9223372036854775807
structure Mi (W:World)(P:Option Addr)(N C:Nat)(rs:Nat->List Rat)(m:Nat):Prop where
 row:∀k,k<N->∃b o A c es,P=some ⟨b,o,none⟩/\b<W.heap.size/\W.cell? ⟨b,o+k,none⟩=some (.slice A (rs k).length c)/\Vi W A c es (rs k) m
 n63:N<=9223372036854775807
section
variable {W V : World} {P : Option Addr} {N C m : Nat} {rs : Nat -> List Rat}
theorem Mc.to (h:Mc W P N C rs)(hb:Below W.heap.size W V):Mc V P N C rs :=
 ⟨fun k hk=>by
  obtain ⟨b,o,A,c,es,e,h1,h2,h3⟩:=h.row k hk
  exact ⟨b,o,A,c,es,e,Nat.lt_of_lt_of_le h1 hb.size,(hb.cell (p:=⟨b,_,none⟩) h1).trans h2,h3.to hb⟩,h.n63⟩
theorem Mi.to (h:Mi W P N C rs m)(hb:Below W.heap.size W V):Mi V P N C rs m :=
 ⟨fun k hk=>by
  obtain ⟨b,o,A,c,es,e,h1,h2,h3⟩:=h.row k hk
  exact ⟨b,o,A,c,es,e,Nat.lt_of_lt_of_le h1 hb.size,(hb.cell (p:=⟨b,_,none⟩) h1).trans h2,h3.to hb⟩,h.n63⟩
theorem Mc.mi (h:Mc W P N C rs)(hm:m<=10000)(hq:∀k,k<N->∀i,Qm m ((rs k).getD i 0)):Mi W P N C rs m :=
 ⟨fun k hk=>by
  obtain ⟨b,o,A,c,es,e,h1,h2,h3⟩:=h.row k hk
  exact ⟨b,o,A,c,es,e,h1,h2,h3.vi (hq k hk) hm⟩,h.n63⟩
end
def MR (w:World)(N:Nat)(rs:Nat->List Rat)(e:Ending)(w':World):Prop:=∃P C,e=.returned (.slice P N C)/\Mc w' P N C rs/\Below w.heap.size w w'
def Vs (rs:Nat->List Rat)(W:World)(i:Nat)(v:Value):Prop:=∃A c es,v=.slice A (rs i).length c/\Vc W A c es (rs i)
theorem Vs.kept (rs:Nat->List Rat):KeptS (Vs rs) where
 to:=fun hb h=>by
  obtain ⟨A,c,es,e,h⟩:=h
  exact ⟨A,c,es,e,h.to hb⟩
 set:=fun hr h=>by
  obtain ⟨A,c,es,e,h⟩:=h
  exact ⟨A,c,es,e,hr.vc h⟩
theorem TotS.mc {rs:Nat->List Rat}{W:World}{P:Option Addr}{n c B:Nat}(h:TotS (Vs rs) W (.slice P n c) n B):Mc W P n c rs:=by
 rcases h with ⟨rfl,h⟩|⟨g,cap,fl,h1,h2,h3,h4,h5,h6,h7⟩
 .cases h
  exact ⟨fun k hk=>absurd hk (Nat.not_lt_zero _),by decide⟩
 .cases h1
  refine ⟨fun k hk=>?_,Nat.le_trans h5 h6⟩
  obtain ⟨A,d,es,e,h8⟩:=h7 k hk
  refine ⟨g,0,A,d,es,rfl,h3.lt,?_,h8⟩
  rw[<-e]
  have hk2:k<fl.length:=by omega
  simp[World.cell?,h3.heap,List.getD,hk2]
end Go.Proofs.YtglhdielkkhefaaGreat

namespace Go.Proofs.YtglhdielkkhefaaGreat
open Go.RowKit Go.Shelf
def Rfit (W:World)(g N k:Nat)(f:Nat->Rat):Prop:=∃fl,Row W g fl/\fl.length=N/\(∀i,i<k->Qc W (fl.getD i E4.z).a (fl.getD i E4.z).b (fl.getD i E4.z).c (fl.getD i E4.z).d (f i))/\∀i,k<=i->fl.getD i E4.z=E4.z
theorem fit_set {fl:List E4}{k:Nat}{e:E4}(h:∀i,k<=i->fl.getD i E4.z=E4.z):∀i,k+1<=i->(fl.set k e).getD i E4.z=E4.z:=fun i hi=>by
 rw[show (fl.set k e).getD i E4.z=fl.getD i E4.z from by simp[List.getD,List.getElem?_set,show k≠i by omega]]
 exact h i (by omega)
theorem resize_row {w:World}{A:Option Addr}{c:Nat}{es:List E4}{rs:List Rat}{k:Nat}(hA:Vi w A c es rs k)(hk:k<=10000)(h1:rs.length<=4398046511104){n:Int}(hn:1<=n)(hn2:n<=9223372036854775807){N:Nat}(hN:min n 65536=(N:Int)) :
  Calls Tryz.prog 62 #[.slice A rs.length c,.int .i64 n] w fun e w'=>∃g fl,e=.returned (.slice (some ⟨g,0,none⟩) N N)/\w.heap.size<=g/\Row w' g fl/\fl.length=N/\(∀i,i<N->Qc w' (fl.getD i E4.z).a (fl.getD i E4.z).b (fl.getD i E4.z).c (fl.getD i E4.z).d (rs.getD i 0))/\Below w.heap.size w w':=by
 have H:=Hd hA
 have HK:=Hd hk
 have hN2:N<=65536:=by omega
 have hn1:¬n<1:=by omega
 have HNN:=Hd hN2
 have HL:=Hd h1
 have hlen:=hA.len
 obtain ⟨f,hf⟩:∃f:Nat->Rat,Hid (f=fun i=>rs.getD i 0):=⟨_,rfl⟩
 obtain ⟨M,hM⟩:∃M:Nat,min rs.length N=M:=⟨_,rfl⟩
 obtain ⟨L,hL⟩:∃L,rs.length=L:=⟨_,rfl⟩
 have HLen:=Hd (hlen.trans hL)
 have HM:=Hd hM
 rw[hL]at h1 hM ⊢
 have hM':min (L:Int) (N:Int)=(M:Int):=by omega
 clear hA hlen hM
 have HMI:=Hd hM'
 go_enter Tryz.func62,Tryz.ntmps62
 go_wp2_with (at_make;refine wpList_makeq _ rfl _ _ rfl N N rfl rfl rfl rfl (Nat.le_refl _) (by omega) ?_)
 have hacc:Rfit (w.alloc (.cells (flat (List.replicate N E4.z)).toArray 32)) w.heap.size N 0 f:=⟨_,Row.new w N,by simp,fun i hi=>by omega,fun i hi=>by by_cases h:i<N<;>simp[List.getD,List.getElem?_replicate,h]⟩
 have hbw:Below w.heap.size w (w.alloc (.cells (flat (List.replicate N E4.z)).toArray 32)):=(Below.refl _ _).alloc (Nat.le_refl _) _
 generalize w.alloc (.cells (flat (List.replicate N E4.z)).toArray 32)=w1 at hacc hbw ⊢
 go_loopw [17] (fun i wr=>∃k:Nat,i=.int .i64 k/\k<=M/\Rfit wr w.heap.size N k f/\Below w.heap.size w wr) (fun i _=>M-(intOf i).toNat)
 case atStart=>exact ⟨0,rfl,Nat.zero_le _,hacc,hbw⟩
 case round =>
  obtain ⟨k,rfl,hk,hra,hb⟩:=hrel
  clear hacc hbw
  have hM63:(M:Int)<=65536:=by omega
  by_cases hlt:k<M
  .have hk1:(0:Int)<=(k:Int):=by omega
   have hk2:(k:Int)<(M:Int):=by omega
   have hk4:(k:Int)<(L:Int):=by omega
   have hk5:(k:Int)<(N:Int):=by omega
   have hkn:k<es.length:=by have:=HLen.out;omega
   obtain ⟨b,o,rfl,hB,g0,g1,g2,g3⟩:=H.out.row k hkn
   have hq:=H.out.el k
   have hfk:Hid (f k=rs.getD k 0):=by show _=_;rw[hf.out]
   rw[getD_at' hkn]at hq
   have f0:=(hb.cell (p:=⟨b,o+k*4,none⟩) hB).trans g0
   have f1:=(hb.cell (p:=⟨b,o+k*4+1,none⟩) hB).trans g1
   have f2:=(hb.cell (p:=⟨b,o+k*4+2,none⟩) hB).trans g2
   have f3:=(hb.cell (p:=⟨b,o+k*4+3,none⟩) hB).trans g3
   have HQ:=Hd (hq.to hb)
   clear g0 g1 g2 g3 hq
   generalize es[k]=E at f0 f1 f2 f3 HQ
   have HR:=Hd hra
   have HB:=Hd hb
   have HLT:Hid (k<M/\k<N):=⟨hlt,by omega⟩
   clear hra hb hkn hlt hk
   go_wp2_with fail
   refine (canonical_q HQ.out HK.out).mono ?_
   rintro e V ⟨x1,x2,x3,x4,rfl,q,bb⟩
   obtain ⟨fl,r1,r2,r3,r4⟩:=HR.out
   have r1':=r1.to bb
   have hq3:∀i,i<k->Qc V (fl.getD i E4.z).a (fl.getD i E4.z).b (fl.getD i E4.z).c (fl.getD i E4.z).d (f i):=fun i hi=>(r3 i hi).to bb
   have hs:=Racc.set (e:=⟨x1,x2,x3,x4⟩) r1' r2 hq3 HLT.out.2 q.fq (by rw[hfk.out];exact q)
   have HE:Hid (Rfit (V.setRow w.heap.size (flat (fl.set k ⟨x1,x2,x3,x4⟩)).toArray) w.heap.size N (k+1) f/\Below w.heap.size w (V.setRow w.heap.size (flat (fl.set k ⟨x1,x2,x3,x4⟩)).toArray)):=by
    have kw:Kw V (V.setRow w.heap.size (flat (fl.set k ⟨x1,x2,x3,x4⟩)).toArray):=r1'.kw
    refine ⟨⟨fl.set k ⟨x1,x2,x3,x4⟩,r1'.app q.fq,by simpa using r2,fun i hi=>?_,fit_set r4⟩,below_setRow (HB.out.trans (bb.mono HB.out.size)) (Nat.le_refl _) _⟩
    by_cases hik:i=k
    .subst hik
     rw[show (fl.set i (⟨x1,x2,x3,x4⟩:E4)).getD i E4.z=⟨x1,x2,x3,x4⟩ from by have:=HLT.out.2;simp[List.getD,show i<fl.length by omega]]
     rw[hfk.out]
     exact kw.qc q
    .rw[show (fl.set k (⟨x1,x2,x3,x4⟩:E4)).getD i E4.z=fl.getD i E4.z from by simp[List.getD,List.getElem?_set,Ne.symm hik]]
     exact kw.qc (hq3 i (by omega))
   have R1:=Hd r1'
   have R2:Hid (k<fl.length):=by show _<_;have:=HLT.out.2;omega
   have QF:=Hd (show (⟨x1,x2,x3,x4⟩:E4).fq from q.fq)
   clear hs r1 r1' r2 r3 r4 hq3 bb q
   go_wp2_with (refine wpList_storeq rfl (.tmp 27) (.tmp 26) rfl (by rfl) (by rfl) R1.out R2.out QF.out ?_;clear R1)
   go_roundw
   case rel=>exact ⟨k+1,by simp,HLT.out.1,HE.out.1,HE.out.2⟩
   case measure=>have:=HLT.out.1;simp[intOf];omega
  .obtain rfl:k=M:=by omega
   have HR:=Hd hra
   have HB:=Hd hb
   clear hra hb hlt
   go_wp2
   go_ret
   obtain ⟨fl,r1,r2,r3,r4⟩:=HR.out
   refine ⟨w.heap.size,fl,rfl,Nat.le_refl _,r1,r2,fun i hi=>?_,HB.out⟩
   by_cases hik:i<k
   .have h:=r3 i hik
    rw[hf.out]at h
    exact h
   .have hm:=HM.out
    rw[r4 i (by omega),getD_ge (l:=rs) (by omega)]
    exact ⟨Zc.zero _,Zc.zero _⟩
theorem resize_nil {w:World}{A:Option Addr}{c l:Nat}{n:Int}(hn:n<1) :
  Calls Tryz.prog 62 #[.slice A l c,.int .i64 n] w fun e w'=>e=.returned (.slice none 0 0)/\Below w.heap.size w w':=by
 go_enter Tryz.func62,Tryz.ntmps62
 go_wp2
 go_ret
 exact ⟨rfl,Below.refl _ _⟩
def fitQ (rs:List Rat)(n:Int):List Rat:=(List.range (min n.toNat 65536)).map fun i=>rs.getD i 0
theorem rint_q (n:Int)(n1:-9223372036854775808<=n)(n2:n<=9223372036854775807)(w:World) :
  Calls Tryz.prog 66 #[.int .i64 n] w (QR w (n:Rat)):=by
 have HN:=Hd fun W=>rfrom_z n n1 n2 W
 clear n1 n2
 obtain ⟨W0,hW0⟩:∃W0,W0=w.alloc (.cells #[.bool false,.slice none 0 0,.bool false,.slice none 0 0] 32):=⟨_,rfl⟩
 have hbw:Below w.heap.size w W0:=by rw[hW0];exact ((Below.refl _ _).alloc (Nat.le_refl _) _)
 have tR:Four W0 (w.heap.size) (.bool false) (.slice none 0 0) (.bool false) (.slice none 0 0):=by
  have h:=Four.new w (.bool false) (.slice none 0 0) (.bool false) (.slice none 0 0) 32
  rw[hW0];exact h
 have HW0:=Hd hW0
 have HB:=Hd hbw
 clear hW0 hbw
 go_enter Tryz.func66,Tryz.ntmps66
 go_wp2_with fail
 rw[<-HW0.out]
 clear HW0
 go_wp2_with fail
 refine (HN.out _).mono ?_
 rintro e V1 ⟨x1,y1,rfl,z1,bb⟩
 replace tR:=tR.to bb
 replace HB:=Hxb HB bb
 clear bb
 have rq:Qc _ x1 y1 (.bool false) (.slice none 0 0) (n:Rat):=⟨z1,zc_nil _⟩
 have RZ:=Hd rq
 obtain ⟨V99,eV,u,kp⟩:=pack4 tR Fq.nil x1 y1 (.bool false) (.slice none 0 0)
 obtain ⟨n1,A1,j1,m1,rfl,rfl⟩:=rq.fq.1
 obtain ⟨v0,v1,v2,v3,v4,v5,v6,v7,_⟩:=tR
 have EV:=Hd eV
 have KP:=Hd kp
 have U:=Hd u
 clear eV kp u rq
 go_wp2
 rw[EV.out]
 refine bodyPost_ret (v:=.agg #[.bool n1,.slice A1 j1 m1,.bool false,.slice none 0 0]) (by simp[results,Tryz.f66,go_sem,U.out.c0,U.out.c1,U.out.c2,U.out.c3]) rfl ?_
 exact ⟨_,_,_,_,rfl,RZ.out.k4 KP.out,KP.out.bel _ _ HB.out (by omega)⟩
theorem Zc.same {w:World}{x y x' y':Value}{a b:Int}(ha:Zc w x y a)(hb:Zc w x' y' b){v:Bool}(hv:decide (a=b)=v):Calls Tryz.prog 52 #[.agg #[x,y],.agg #[x',y']] w fun e w'=>e=.returned (.bool v)/\Below w.heap.size w w':=by
 subst hv;exact same_c ha hb
theorem den_cell {r s:Rat}(h:r≠s)(hn:r.num=s.num):(if r.den=1 then 0 else (r.den:Int))≠(if s.den=1 then 0 else (s.den:Int)):=by
 intro h2
 apply h
 refine Rat.ext hn ?_
 have h3:=r.den_pos
 have h4:=s.den_pos
 split at h2<;>split at h2<;>omega
theorem is_t {w:World}{a1 a2 a3 a4 b1 b2 b3 b4:Value}{r s:Rat}(hA:Qc w a1 a2 a3 a4 r)(hB:Qc w b1 b2 b3 b4 s)(h:r=s) :
  Calls Tryz.prog 15 #[.agg #[a1,a2,a3,a4],.agg #[b1,b2,b3,b4]] w (fun e w'=>e=.returned (.bool true)/\Below w.heap.size w w'):=by
 have e1:Hid (decide (r.num=s.num)=true):=decide_eq_true (by rw[h])
 have e2:Hid (decide ((if r.den=1 then 0 else (r.den:Int))=(if s.den=1 then 0 else (s.den:Int)))=true):=decide_eq_true (by rw[h])
 clear h
 obtain ⟨W0,hW0⟩:∃W0,W0=(w.alloc (.cells #[a1,a2,a3,a4] 32)).alloc (.cells #[b1,b2,b3,b4] 32):=⟨_,rfl⟩
 have hbw:Below w.heap.size w W0:=by rw[hW0];exact (((Below.refl _ _).alloc (Nat.le_refl _) _).alloc (by simp) _)
 have tA:Four W0 (w.heap.size) a1 a2 a3 a4:=by
  have h:=Four.new w a1 a2 a3 a4 32
  rw[hW0];exact (h.alloc _)
 have tB:Four W0 (w.heap.size+1) b1 b2 b3 b4:=by
  have h:=Four.new (w.alloc (.cells #[a1,a2,a3,a4] 32)) b1 b2 b3 b4 32
  rw[World.size_alloc]at h
  rw[hW0];exact h
 replace hA:=hA.to hbw
 replace hB:=hB.to hbw
 have HW0:=Hd hW0
 have HB:=Hd hbw
 clear hW0 hbw
 go_enter Tryz.func15,Tryz.ntmps15
 go_wp2_with fail
 rw[<-HW0.out]
 clear HW0
 have kktA0:=tA.c0
 have kktA1:=tA.c1
 have kktA2:=tA.c2
 have kktA3:=tA.c3
 have kktB0:=tB.c0
 have kktB1:=tB.c1
 have kktB2:=tB.c2
 have kktB3:=tB.c3
 go_wp2_with fail
 refine (hA.1.same hB.1 e1.out).mono ?_
 rintro e V1 ⟨rfl,bb⟩
 clear kktA0 kktA1 kktA2 kktA3 kktB0 kktB1 kktB2 kktB3
 replace tA:=tA.to bb
 replace tB:=tB.to bb
 replace hA:=hA.to bb
 replace hB:=hB.to bb
 replace HB:=Hxb HB bb
 clear bb
 have kktA0:=tA.c0
 have kktA1:=tA.c1
 have kktA2:=tA.c2
 have kktA3:=tA.c3
 have kktB0:=tB.c0
 have kktB1:=tB.c1
 have kktB2:=tB.c2
 have kktB3:=tB.c3
 go_wp2_with fail
 refine (hA.2.same hB.2 e2.out).mono ?_
 rintro e V2 ⟨rfl,bb⟩
 clear kktA0 kktA1 kktA2 kktA3 kktB0 kktB1 kktB2 kktB3
 replace tA:=tA.to bb
 replace tB:=tB.to bb
 replace HB:=Hxb HB bb
 clear bb
 clear tA tB
 go_wp2
 go_ret
 exact ⟨rfl,HB.out⟩
theorem is_n {w:World}{a1 a2 a3 a4 b1 b2 b3 b4:Value}{r s:Rat}(hA:Qc w a1 a2 a3 a4 r)(hB:Qc w b1 b2 b3 b4 s)(h:r.num≠s.num) :
  Calls Tryz.prog 15 #[.agg #[a1,a2,a3,a4],.agg #[b1,b2,b3,b4]] w (fun e w'=>e=.returned (.bool false)/\Below w.heap.size w w'):=by
 have e1:Hid (decide (r.num=s.num)=false):=decide_eq_false h
 clear h
 obtain ⟨W0,hW0⟩:∃W0,W0=(w.alloc (.cells #[a1,a2,a3,a4] 32)).alloc (.cells #[b1,b2,b3,b4] 32):=⟨_,rfl⟩
 have hbw:Below w.heap.size w W0:=by rw[hW0];exact (((Below.refl _ _).alloc (Nat.le_refl _) _).alloc (by simp) _)
 have tA:Four W0 (w.heap.size) a1 a2 a3 a4:=by
  have h:=Four.new w a1 a2 a3 a4 32
  rw[hW0];exact (h.alloc _)
 have tB:Four W0 (w.heap.size+1) b1 b2 b3 b4:=by
  have h:=Four.new (w.alloc (.cells #[a1,a2,a3,a4] 32)) b1 b2 b3 b4 32
  rw[World.size_alloc]at h
  rw[hW0];exact h
 replace hA:=hA.to hbw
 replace hB:=hB.to hbw
 have HW0:=Hd hW0
 have HB:=Hd hbw
 clear hW0 hbw
 go_enter Tryz.func15,Tryz.ntmps15
 go_wp2_with fail
 rw[<-HW0.out]
 clear HW0
 have kktA0:=tA.c0
 have kktA1:=tA.c1
 have kktA2:=tA.c2
 have kktA3:=tA.c3
 have kktB0:=tB.c0
 have kktB1:=tB.c1
 have kktB2:=tB.c2
 have kktB3:=tB.c3
 go_wp2_with fail
 refine (hA.1.same hB.1 e1.out).mono ?_
 rintro e V1 ⟨rfl,bb⟩
 clear kktA0 kktA1 kktA2 kktA3 kktB0 kktB1 kktB2 kktB3
 replace tA:=tA.to bb
 replace tB:=tB.to bb
 replace hA:=hA.to bb
 replace hB:=hB.to bb
 replace HB:=Hxb HB bb
 clear bb
 clear tA tB
 go_wp2
 go_ret
 exact ⟨rfl,HB.out⟩
theorem is_d {w:World}{a1 a2 a3 a4 b1 b2 b3 b4:Value}{r s:Rat}(hA:Qc w a1 a2 a3 a4 r)(hB:Qc w b1 b2 b3 b4 s)(h:r≠s)(hn:r.num=s.num) :
  Calls Tryz.prog 15 #[.agg #[a1,a2,a3,a4],.agg #[b1,b2,b3,b4]] w (fun e w'=>e=.returned (.bool false)/\Below w.heap.size w w'):=by
 have e1:Hid (decide (r.num=s.num)=true):=decide_eq_true hn
 have e2:Hid (decide ((if r.den=1 then 0 else (r.den:Int))=(if s.den=1 then 0 else (s.den:Int)))=false):=decide_eq_false (den_cell h hn)
 clear h hn
 obtain ⟨W0,hW0⟩:∃W0,W0=(w.alloc (.cells #[a1,a2,a3,a4] 32)).alloc (.cells #[b1,b2,b3,b4] 32):=⟨_,rfl⟩
 have hbw:Below w.heap.size w W0:=by rw[hW0];exact (((Below.refl _ _).alloc (Nat.le_refl _) _).alloc (by simp) _)
 have tA:Four W0 (w.heap.size) a1 a2 a3 a4:=by
  have h:=Four.new w a1 a2 a3 a4 32
  rw[hW0];exact (h.alloc _)
 have tB:Four W0 (w.heap.size+1) b1 b2 b3 b4:=by
  have h:=Four.new (w.alloc (.cells #[a1,a2,a3,a4] 32)) b1 b2 b3 b4 32
  rw[World.size_alloc]at h
  rw[hW0];exact h
 replace hA:=hA.to hbw
 replace hB:=hB.to hbw
 have HW0:=Hd hW0
 have HB:=Hd hbw
 clear hW0 hbw
 go_enter Tryz.func15,Tryz.ntmps15
 go_wp2_with fail
 rw[<-HW0.out]
 clear HW0
 have kktA0:=tA.c0
 have kktA1:=tA.c1
 have kktA2:=tA.c2
 have kktA3:=tA.c3
 have kktB0:=tB.c0
 have kktB1:=tB.c1
 have kktB2:=tB.c2
 have kktB3:=tB.c3
 go_wp2_with fail
 refine (hA.1.same hB.1 e1.out).mono ?_
 rintro e V1 ⟨rfl,bb⟩
 clear kktA0 kktA1 kktA2 kktA3 kktB0 kktB1 kktB2 kktB3
 replace tA:=tA.to bb
 replace tB:=tB.to bb
 replace hA:=hA.to bb
 replace hB:=hB.to bb
 replace HB:=Hxb HB bb
 clear bb
 have kktA0:=tA.c0
 have kktA1:=tA.c1
 have kktA2:=tA.c2
 have kktA3:=tA.c3
 have kktB0:=tB.c0
 have kktB1:=tB.c1
 have kktB2:=tB.c2
 have kktB3:=tB.c3
 go_wp2_with fail
 refine (hA.2.same hB.2 e2.out).mono ?_
 rintro e V2 ⟨rfl,bb⟩
 clear kktA0 kktA1 kktA2 kktA3 kktB0 kktB1 kktB2 kktB3
 replace tA:=tA.to bb
 replace tB:=tB.to bb
 replace HB:=Hxb HB bb
 clear bb
 clear tA tB
 go_wp2
 go_ret
 exact ⟨rfl,HB.out⟩
theorem is_q {w:World}{a1 a2 a3 a4 b1 b2 b3 b4:Value}{r s:Rat}(hA:Qc w a1 a2 a3 a4 r)(hB:Qc w b1 b2 b3 b4 s){v:Bool}(hv:decide (r=s)=v):Calls Tryz.prog 15 #[.agg #[a1,a2,a3,a4],.agg #[b1,b2,b3,b4]] w fun e w'=>e=.returned (.bool v)/\Below w.heap.size w w':=by
 subst hv
 by_cases h:r=s
 .rw[decide_eq_true h];exact is_t hA hB h
 .rw[decide_eq_false h]
  by_cases hn:r.num=s.num
  .exact is_d hA hB h hn
  .exact is_n hA hB hn
theorem rints_v {w:World}{A:Option Addr}{c:Nat}{ns:List Int}(h:Rn w A ns)(hn:∀n∈ns,-9223372036854775808<=n/\n<=9223372036854775807)(hl:ns.length+1<=1000000) :
  Calls Tryz.prog 50 #[.slice A ns.length c] w (VR w (ratsOf ns)):=by
 have H:=Hd h
 have HN:=Hd hn
 have HL:=Hd hl
 obtain ⟨f,hf⟩:∃f:Nat->Rat,Hid (f=fun i=>(ratsOf ns).getD i 0):=⟨_,rfl⟩
 obtain ⟨N,hN⟩:∃N,ns.length=N:=⟨_,rfl⟩
 have HNN:=Hd hN
 rw[hN]at hl HL ⊢
 clear h hn hN
 go_enter Tryz.func50,Tryz.ntmps50
 go_wp2
 go_loopw [3,4] (fun v i wr=>∃(k:Nat) (A1:Option Addr) (c1:Nat),v=.slice A1 k c1/\i=.int .i64 k/\k<=N/\Hid (TotV wr (.slice A1 k c1) k f w.heap.size)/\Below w.heap.size w wr) (fun _ i _=>N-(intOf i).toNat)
 case atStart=>exact ⟨0,none,0,rfl,rfl,Nat.zero_le _,.inl ⟨rfl,rfl⟩,Below.refl _ _⟩
 case round =>
  obtain ⟨k,A1,c1,rfl,rfl,hk,hT,hb⟩:=hrel
  by_cases hlt:k<N
  .have hk1:(0:Int)<=(k:Int):=by omega
   have hk2:(k:Int)<(N:Int):=by omega
   have hk3:(k:Int)+1<=9223372036854775807:=by omega
   have hkn:k<ns.length:=by have:=HNN.out;omega
   obtain ⟨b,o,rfl,hc⟩:=H.out k hkn
   have hbn:=HN.out _ (List.getElem_mem hkn)
   have hfk:Hid (f k=((ns[k]:Int):Rat)):=by show _=_;rw[hf.out];simp[ratsOf,List.getD,hkn]
   have cc:=(hb.cell (p:=⟨b,o+k,none⟩) (World.block_lt_of_cell? w _ hc)).trans hc
   generalize ns[k]=n at hbn hfk cc
   have HB:=Hd hb
   have HLT:=Hd hlt
   have HBN:=Hd hbn
   clear hc hb hkn hbn hlt
   go_wp2_with fail
   refine (rint_q n HBN.out.1 HBN.out.2 wr).mono ?_
   rintro e V ⟨x1,x2,x3,x4,rfl,q,bb⟩
   have bb2:Below V.heap.size V (V.alloc (.cells #[x1,x2,x3,x4] 32)):=(Below.refl _ _).alloc (Nat.le_refl _) _
   have c5:=(Hp.new V #[x1,x2,x3,x4] 32).four
   have hB1:=HB.out.trans (bb.mono HB.out.size)
   have hB2:=Bxb hB1 bb2
   obtain ⟨v',X,hrun,hT2,hbel⟩:=qapp ((hT.out.to bb).to bb2) hB2.size (by have:=HL.out;have:=HLT.out;omega) (e:=⟨x1,x2,x3,x4⟩) q.fq (by rw[hfk.out];exact q.to bb2) (a:=⟨V.heap.size,0,none⟩) (c:=1) c5.c0 c5.c1 c5.c2 c5.c3 38
   obtain ⟨A2,c2,rfl⟩:=hT2.sl
   have HRUN:=Hd hrun
   have HE:Hid (TotV X (.slice A2 (k+1) c2) (k+1) f w.heap.size/\Below w.heap.size w X):=⟨hT2,hB2.trans hbel⟩
   clear bb2 c5 hbel hrun bb q hT2 hB1 hB2
   go_wp2_with (at_builtin;refine wpList_append_run rfl (.tmp 11) (.tmp 17) 38 rfl (by rfl) (by rfl) HRUN.out ?_;clear HRUN)
   go_roundw
   case rel=>exact ⟨k+1,A2,c2,rfl,by simp,HLT.out,HE.out.1,HE.out.2⟩
   case measure=>have:=HLT.out;simp[intOf];omega
  .obtain rfl:k=N:=by omega
   have HT:=hT
   have HB:=Hd hb
   clear hT hb hlt
   go_wp2
   go_ret
   have h1:=HT.out
   have h2:(ratsOf ns).length=k:=by rw[ratsOf_length,HNN.out]
   rw[hf.out]at h1
   subst h2
   exact h1.vr (by have:=HL.out;omega) HB.out
def unitQ (n k:Int):List Rat:=(List.range (min n.toNat 65536)).map fun i:Nat=>if (i:Int)=k then (1:Rat) else 0
theorem unitQ_length (n k:Int):(unitQ n k).length=min n.toNat 65536:=by simp[unitQ]
theorem unitQ_in {n k:Int}{i:Nat}(h:i<min n.toNat 65536):(unitQ n k).getD i 0=if (i:Int)=k then (1:Rat) else 0:=by
 rw[getD_lt (by rw[unitQ_length];exact h)]
 simp[unitQ]
theorem unit_out {w:World}{n k:Int}(hn:n<1)(hn2:n<=9223372036854775807) :
  Calls Tryz.prog 47 #[.int .i64 n,.int .i64 k] w fun e w'=>e=.returned (.slice none 0 0)/\Below w.heap.size w w':=by
 have HC:=Hd (resize_nil (w:=w) (A:=none) (c:=0) (l:=0) hn)
 by_cases hk:0<=k
 .have hk2:¬k<0:=by omega
  go_enter Tryz.func47,Tryz.ntmps47
  go_wp2_with fail
  refine HC.out.mono ?_
  rintro e V ⟨rfl,bb⟩
  go_wp2
  go_ret
  exact ⟨rfl,bb⟩
 .go_enter Tryz.func47,Tryz.ntmps47
  go_wp2_with fail
  refine HC.out.mono ?_
  rintro e V ⟨rfl,bb⟩
  go_wp2
  go_ret
  exact ⟨rfl,bb⟩
theorem unit_far {w:World}{n k:Int}(hn:1<=n)(hn2:n<=9223372036854775807){N:Nat}(hN:min n 65536=(N:Int))(hk:¬(0<=k/\k<(N:Int))) :
  Calls Tryz.prog 47 #[.int .i64 n,.int .i64 k] w fun e w'=>∃g fl,e=.returned (.slice (some ⟨g,0,none⟩) N N)/\w.heap.size<=g/\Row w' g fl/\fl.length=N/\(∀i,i<N->Qc w' (fl.getD i E4.z).a (fl.getD i E4.z).b (fl.getD i E4.z).c (fl.getD i E4.z).d (if (i:Int)=k then (1:Rat) else 0))/\Below w.heap.size w w':=by
 have HC:=Hd (resize_row (Vi.nil w (k:=1) (c:=0) (A:=none) (by decide)) (by decide) (by decide) hn hn2 hN)
 have HK:=Hd hk
 clear hN hn hn2
 by_cases h0:0<=k
 .have h1:¬k<(N:Int):=fun h=>hk ⟨h0,h⟩
  clear hk
  go_enter Tryz.func47,Tryz.ntmps47
  go_wp2_with fail
  refine HC.out.mono ?_
  rintro e V ⟨g,fl,rfl,hg,hr,hl,hq,bb⟩
  have HE:Hid (w.heap.size<=g/\Row V g fl/\fl.length=N/\(∀i,i<N->Qc V (fl.getD i E4.z).a (fl.getD i E4.z).b (fl.getD i E4.z).c (fl.getD i E4.z).d (if (i:Int)=k then (1:Rat) else 0))/\Below w.heap.size w V) :=
   ⟨hg,hr,hl,fun i hi=>by rw[if_neg (by omega)];exact hq i hi,bb⟩
  clear hg hr hl hq bb
  go_wp2
  go_ret
  first|exact ⟨g,fl,rfl,HE.out⟩|exact ⟨g,rfl,HE.out.1,fl,HE.out.2⟩
 .clear hk
  go_enter Tryz.func47,Tryz.ntmps47
  go_wp2_with fail
  refine HC.out.mono ?_
  rintro e V ⟨g,fl,rfl,hg,hr,hl,hq,bb⟩
  have HE:Hid (w.heap.size<=g/\Row V g fl/\fl.length=N/\(∀i,i<N->Qc V (fl.getD i E4.z).a (fl.getD i E4.z).b (fl.getD i E4.z).c (fl.getD i E4.z).d (if (i:Int)=k then (1:Rat) else 0))/\Below w.heap.size w V) :=
   ⟨hg,hr,hl,fun i hi=>by rw[if_neg (by omega)];exact hq i hi,bb⟩
  clear hg hr hl hq bb
  go_wp2
  go_ret
  first|exact ⟨g,fl,rfl,HE.out⟩|exact ⟨g,rfl,HE.out.1,fl,HE.out.2⟩
theorem unit_at {w:World}{n:Int}{k:Nat}(hn:1<=n)(hn2:n<=9223372036854775807){N:Nat}(hN:min n 65536=(N:Int))(hk:k<N) :
  Calls Tryz.prog 47 #[.int .i64 n,.int .i64 (k:Int)] w fun e w'=>∃g fl,e=.returned (.slice (some ⟨g,0,none⟩) N N)/\w.heap.size<=g/\Row w' g fl/\fl.length=N/\(∀i,i<N->Qc w' (fl.getD i E4.z).a (fl.getD i E4.z).b (fl.getD i E4.z).c (fl.getD i E4.z).d (if (i:Int)=(k:Int) then (1:Rat) else 0))/\Below w.heap.size w w':=by
 have HC:=Hd (resize_row (Vi.nil w (k:=1) (c:=0) (A:=none) (by decide)) (by decide) (by decide) hn hn2 hN)
 have HK:=Hd hk
 have h0:(0:Int)<=(k:Int):=by omega
 have h1:(k:Int)<(N:Int):=by omega
 clear hN hn hn2 hk
 go_enter Tryz.func47,Tryz.ntmps47
 go_wp2_with fail
 refine HC.out.mono ?_
 rintro e V ⟨g,fl,rfl,hg,hr,hl,hq,bb⟩
 have HE:=Hd (show w.heap.size<=g/\Row V g fl/\fl.length=N/\(∀i,i<N->Qc V (fl.getD i E4.z).a (fl.getD i E4.z).b (fl.getD i E4.z).c (fl.getD i E4.z).d (([]:List Rat).getD i 0))/\Below w.heap.size w V from ⟨hg,hr,hl,hq,bb⟩)
 clear hg hr hl hq bb
 go_wp2_with fail
 refine (fromInt_q 1 (by decide) (by decide) V).mono ?_
 rintro e U ⟨x1,x2,x3,x4,rfl,q,bb⟩
 obtain ⟨hg,hr,hl,hq,b0⟩:=HE.out
 have R1:=Hd (hr.to bb)
 have R2:Hid (k<fl.length):=by show _<_;have:=HK.out;omega
 have QF:=Hd (show (⟨x1,x2,x3,x4⟩:E4).fq from q.fq)
 have HF:Hid (w.heap.size<=g/\Row (U.setRow g (flat (fl.set k ⟨x1,x2,x3,x4⟩)).toArray) g (fl.set k ⟨x1,x2,x3,x4⟩)/\(fl.set k ⟨x1,x2,x3,x4⟩).length=N/\(∀i,i<N->Qc (U.setRow g (flat (fl.set k ⟨x1,x2,x3,x4⟩)).toArray) ((fl.set k ⟨x1,x2,x3,x4⟩).getD i E4.z).a ((fl.set k ⟨x1,x2,x3,x4⟩).getD i E4.z).b ((fl.set k ⟨x1,x2,x3,x4⟩).getD i E4.z).c ((fl.set k ⟨x1,x2,x3,x4⟩).getD i E4.z).d (if (i:Int)=(k:Int) then (1:Rat) else 0))/\Below w.heap.size w (U.setRow g (flat (fl.set k ⟨x1,x2,x3,x4⟩)).toArray)):=by
  have kw:Kw U (U.setRow g (flat (fl.set k ⟨x1,x2,x3,x4⟩)).toArray):=R1.out.kw
  refine ⟨hg,R1.out.app q.fq,by simpa using hl,fun i hi=>?_,below_setRow (Bxb b0 bb) hg _⟩
  by_cases hik:i=k
  .subst hik
   rw[show (fl.set i (⟨x1,x2,x3,x4⟩:E4)).getD i E4.z=⟨x1,x2,x3,x4⟩ from by simp[List.getD,show i<fl.length by omega],if_pos rfl]
   exact kw.qc q
  .rw[show (fl.set k (⟨x1,x2,x3,x4⟩:E4)).getD i E4.z=fl.getD i E4.z from by simp[List.getD,List.getElem?_set,Ne.symm hik],if_neg (by omega)]
   exact kw.qc ((hq i hi).to bb)
 clear hg hr hl hq b0 bb q HE
 go_wp2_with (refine wpList_storeq rfl (.tmp 19) (.tmp 18) rfl (by rfl) (by rfl) R1.out R2.out QF.out ?_;clear R1)
 go_ret
 exact ⟨g,_,rfl,HF.out⟩
theorem vunit_v {w:World}{n k:Int}(hn2:n<=9223372036854775807):Calls Tryz.prog 47 #[.int .i64 n,.int .i64 k] w (VR w (unitQ n k)):=by
 by_cases hn:n<1
 .refine (unit_out hn hn2).mono ?_
  rintro e w' ⟨rfl,hb⟩
  have h0:unitQ n k=[]:=List.eq_nil_of_length_eq_zero (by rw[unitQ_length];omega)
  rw[h0]
  exact ⟨none,0,[],rfl,Vc.nil _ (by decide),hb⟩
 .have hN:min n 65536=((min n.toNat 65536:Nat):Int):=by omega
  have fin:∀e w',(∃g fl,e=Ending.returned (.slice (some ⟨g,0,none⟩) (min n.toNat 65536) (min n.toNat 65536))/\w.heap.size<=g/\Row w' g fl/\fl.length=min n.toNat 65536/\(∀i,i<min n.toNat 65536->Qc w' (fl.getD i E4.z).a (fl.getD i E4.z).b (fl.getD i E4.z).c (fl.getD i E4.z).d (if (i:Int)=k then (1:Rat) else 0))/\Below w.heap.size w w')->VR w (unitQ n k) e w':=by
   rintro e w' ⟨g,fl,rfl,_,hr,hl,hq,hb⟩
   refine ⟨some ⟨g,0,none⟩,min n.toNat 65536,fl,by rw[unitQ_length],hr.vc hl (unitQ_length ..) (by omega) fun i hi=>?_,hb⟩
   rw[unitQ_in hi]
   exact hq i hi
  by_cases hk:0<=k/\k<((min n.toNat 65536:Nat):Int)
  .obtain ⟨m,rfl⟩:=Int.eq_ofNat_of_zero_le hk.1
   exact (unit_at (by omega) hn2 hN (by omega)).mono fin
  .exact (unit_far (by omega) hn2 hN hk).mono fin
end Go.Proofs.YtglhdielkkhefaaGreat
