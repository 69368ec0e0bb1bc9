/- Parts: 10. -/
import Derived.Test.YtiifpobhmnplaaaGreatVs20
import Derived.Test.YtiifpobhmnplaaaGreatVs21
import Derived.Test.YtiifpobhmnplaaaGreatVs23
import Derived.Test.YtiifpobhmnplaaaGreatVs24
set_option linter.unusedVariables false
set_option linter.unusedSimpArgs false
set_option maxRecDepth 100000
set_option maxHeartbeats 40000000

namespace Go.Proofs.YtiifpobhmnplaaaGreat
open Go.ChangeShapes Go.WideShapes Go.ChangeAt Go.RowKit Go.Joins
theorem open_vt {H:Type}{enc:TypeId×Value->H}{W:World}{base:Nat}{spare:Nat->Bool}{held:Bool}{v:Value}{fuel:Nat}{x:DataW H×List MemPlace}
  (hs:∀b,spare b=true) (hf:DataW.trod enc Tryz.prog W base spare held fuel 27 [v]=some x) :
  ∃A c es,v=.slice A es.length c/\VIn W ⟨A,c,es⟩:=by
 rcases Go.Deep.open_slice Tryz.underlying27 hf with ⟨e1,_⟩|⟨ad,len,cap,m,n,D,Pl,e1,hb,hl,hm,hmm,_,hx⟩
 .simp only[List.cons.injEq,Value.slice.injEq,and_true]at e1
  obtain ⟨rfl,rfl,rfl⟩:=e1
  exact ⟨none,0,[],rfl,⟨Rq.nil,fun e he=>(by cases he),Nat.le_refl _,by decide⟩⟩
 .simp only[List.cons.injEq,Value.slice.injEq,and_true]at e1
  obtain ⟨rfl,rfl,rfl⟩:=e1
  have hlm:len<=m:=by rw[hmm];split<;>omega
  have each:∀i,i<len->∃E:E4,(W.cell? (ad.add (i*4))=some E.a/\W.cell? (ad.add (i*4+1))=some E.b/\W.cell? (ad.add (i*4+2))=some E.c/\W.cell? (ad.add (i*4+3))=some E.d)/\ZxE W E:=by
   intro i hi
   obtain ⟨cs',h1,h2⟩:=hx i (by omega)
   rw[cellsQ]at h1
   obtain ⟨_,hlen,hcell⟩:=World.cells?_some h1
   match cs',hlen with
   | [c0,c1,c2,c3],_ =>
    have f0:=hcell 0 (by omega)
    have f1:=hcell 1 (by omega)
    have f2:=hcell 2 (by omega)
    have f3:=hcell 3 (by omega)
    rw[Go.Deep.add_add]at f0 f1 f2 f3
    exact ⟨⟨c0,c1,c2,c3⟩,⟨by simpa using f0,by simpa using f1,by simpa using f2,by simpa using f3⟩,trod_q hs h2⟩
  obtain ⟨E,hE⟩:=Go.Deep.choose_lt each
  have hlen:((List.range len).map E).length=len:=by simp
  refine ⟨some ad,cap,(List.range len).map E,by rw[hlen],⟨?_,?_,by show ((List.range len).map E).length<=cap;rw[hlen];exact hl,by have:=hm;unfold maxLen at this;show cap<=_;omega⟩⟩
  .intro k hk
   have hk':k<len:=by rw[<-hlen];exact hk
   obtain ⟨⟨c0,c1,c2,c3⟩,_⟩:=hE k hk'
   have hsp:=spot_none (hE 0 (by omega)).1.1
   obtain ⟨b,o,sp⟩:=ad
   have h0:(⟨b,o,sp⟩:Addr).add (0*4)=⟨b,o,sp⟩:=by simp[Addr.add]
   rw[h0]at hsp
   dsimp only at hsp
   subst hsp
   have hadd:∀j,(⟨b,o,none⟩:Addr).add j=⟨b,o+j,none⟩:=fun j=>by
    unfold Addr.add
    by_cases hj:j=0
    .simp[hj]
    .simp[hj]
   rw[hadd]at c0 c1 c2 c3
   refine ⟨b,o,rfl,World.block_lt_of_cell? W _ c0,?_⟩
   have he:((List.range len).map E)[k]=E k:=by simp
   show W.cell? ⟨b,o+k*4,none⟩=some (((List.range len).map E)[k]).a/\W.cell? ⟨b,o+k*4+1,none⟩=some (((List.range len).map E)[k]).b/\W.cell? ⟨b,o+k*4+2,none⟩=some (((List.range len).map E)[k]).c/\W.cell? ⟨b,o+k*4+3,none⟩=some (((List.range len).map E)[k]).d
   rw[he]
   exact ⟨c0,by rw[<-Nat.add_assoc]at c1;exact c1,by rw[<-Nat.add_assoc]at c2;exact c2,by rw[<-Nat.add_assoc]at c3;exact c3⟩
  .intro e he
   obtain ⟨i,hi,rfl⟩:=List.mem_map.1 he
   exact (hE i (List.mem_range.1 hi)).2
theorem cellsV : Tryz.prog.cellsOf 27=1:=by kernel_rfl
theorem open_r {H:Type}{enc:TypeId×Value->H}{W:World}{base:Nat}{spare:Nat->Bool}{held:Bool}{r:Reach}{b0:Nat}{v:Value}{d:DataW H}{p:List MemPlace}
  (hs:∀b,spare b=true) (hv:Value.okWide Tryz.prog W r b0 44 v) (h:DataW.Trod enc Tryz.prog W base spare held 44 v d p) :
  ∃(P:Option Addr) (n C:Nat) (vs:Nat->VA),v=.slice P n C/\n<=9223372036854775807/\(∀i,i<n->∃b o,P=some ⟨b,o,none⟩/\b<W.heap.size/\W.cell? ⟨b,o+i,none⟩=some (.slice (vs i).A (vs i).es.length (vs i).c))/\∀i,i<n->VIn W (vs i):=by
 obtain ⟨a,len,cap,rfl⟩:=okWide_slice Tryz.underlying44 hv
 obtain ⟨fuel,hf⟩:=h
 replace hf:DataW.trod enc Tryz.prog W base spare held fuel 44 [.slice a len cap]=some (d,p):=hf
 rcases Go.Deep.open_slice1 Tryz.underlying44 cellsV hf with ⟨e1,_⟩|⟨ad,l,cp,m,n,V,D,Pl,e1,hb,hl,hm,hmm,_,hx⟩
 .simp only[List.cons.injEq,Value.slice.injEq,and_true]at e1
  obtain ⟨rfl,rfl,rfl⟩:=e1
  exact ⟨none,0,0,fun _=>⟨none,0,[]⟩,rfl,by decide,fun i hi=>absurd hi (Nat.not_lt_zero _),fun i hi=>absurd hi (Nat.not_lt_zero _)⟩
 .simp only[List.cons.injEq,Value.slice.injEq,and_true]at e1
  obtain ⟨rfl,rfl,rfl⟩:=e1
  have hlm:len<=m:=by rw[hmm];split<;>omega
  have each:∀i,i<len->∃u:VA,V i=.slice u.A u.es.length u.c/\VIn W u:=fun i hi=>by
   obtain ⟨A,c,es,h1,h2⟩:=open_vt hs (hx i (by omega)).2
   exact ⟨⟨A,c,es⟩,h1,h2⟩
  haveI:Inhabited VA:=⟨⟨none,0,[]⟩⟩
  obtain ⟨vs,hvs⟩:=Go.Deep.choose_lt each
  refine ⟨some ad,len,cap,vs,rfl,by have:=hm;unfold maxLen at this;omega,fun i hi=>?_,fun i hi=>(hvs i hi).2⟩
  have hc:=(hx i (by omega)).1
  have h0:=(hx 0 (by omega)).1
  obtain ⟨b,o,sp⟩:=ad
  have h00:(⟨b,o,sp⟩:Addr).add 0=⟨b,o,sp⟩:=by simp[Addr.add]
  rw[h00]at h0
  have hsp:=spot_none h0
  dsimp only at hsp
  subst hsp
  have hadd:(⟨b,o,none⟩:Addr).add i=⟨b,o+i,none⟩:=by
   unfold Addr.add
   by_cases hj:i=0
   .simp[hj]
   .simp[hj]
  rw[hadd,(hvs i hi).1]at hc
  exact ⟨b,o,rfl,World.block_lt_of_cell? W _ hc,hc⟩
theorem cellsI : Tryz.prog.cellsOf 2=1:=by kernel_rfl
theorem open_l {H:Type}{enc:TypeId×Value->H}{W:World}{base:Nat}{spare:Nat->Bool}{held:Bool}{r:Reach}{b0:Nat}{v:Value}{d:DataW H}{p:List MemPlace}
  (hs:∀b,spare b=true) (hv:Value.okWide Tryz.prog W r b0 43 v) (h:DataW.Trod enc Tryz.prog W base spare held 43 v d p) :
  ∃(A:Option Addr) (c:Nat) (ns:List Int),v=.slice A ns.length c/\Rn W A ns/\(∀n∈ns,-9223372036854775808<=n/\n<=9223372036854775807)/\ns.length<=9223372036854775807:=by
 obtain ⟨a,len,cap,rfl⟩:=okWide_slice Tryz.underlying43 hv
 obtain ⟨fuel,hf⟩:=h
 replace hf:DataW.trod enc Tryz.prog W base spare held fuel 43 [.slice a len cap]=some (d,p):=hf
 rcases open_ints Tryz.underlying43 Tryz.underlying2 cellsI hf with ⟨e1,_⟩|⟨x,l,c,zs,e1,_,hl,hm,hz,_,hcell,hwz⟩
 .simp only[List.cons.injEq,Value.slice.injEq,and_true]at e1
  obtain ⟨rfl,rfl,rfl⟩:=e1
  exact ⟨none,0,[],rfl,(fun k hk=>absurd hk (Nat.not_lt_zero _)),(fun n hn=>(by cases hn)),(by decide)⟩
 .simp only[List.cons.injEq,Value.slice.injEq,and_true]at e1
  obtain ⟨rfl,rfl,rfl⟩:=e1
  rw[hs,if_pos rfl]at hz
  have hlen:(zs.take len).length=len:=by rw[List.length_take];omega
  refine ⟨some x,cap,zs.take len,by rw[hlen],?_,fun n hn=>bounds_i64 (hwz n (List.mem_of_mem_take hn)),by rw[hlen];unfold maxLen at hm;omega⟩
  intro k hk
  rw[hlen]at hk
  obtain ⟨b,off,rfl,hc⟩:=Go.ints_at hcell (by omega)
  have hck:=hc k (by omega)
  refine ⟨b,off,rfl,?_⟩
  rw[hck]
  simp[List.getD,show k<zs.length by omega]
end Go.Proofs.YtiifpobhmnplaaaGreat

namespace Go.Proofs.YtiifpobhmnplaaaGreat
open Go.RowKit Go.Shelf
theorem vlong_o (P:Option Addr)(vs:List VA)(cap:Nat)(w:World)(hc:∀i (h:i<vs.length),∃b o,P=some ⟨b,o,none⟩/\b<w.heap.size/\w.cell? ⟨b,o+i,none⟩=some (.slice vs[i].A vs[i].es.length vs[i].c))(hv:∀v∈vs,VIn w v)(hl:vs.length<=9223372036854775807){r:Bool}(hr:vs.any (fun v=>lngV v.es)=r) :
  Calls Tryz.prog 11 #[.slice P vs.length cap] w fun e w'=>e=.returned (.bool r)/\Below w.heap.size w w':=by
 have HC:=Hd hc
 have HV:=Hd hv
 have HR:=Hd hr
 clear hc hv hr
 go_enter Tryz.func11,Tryz.ntmps11
 go_wp2
 go_loopw [3] (fun i wr=>∃k:Nat,i=.int .i64 k/\k<=vs.length/\(∀j (hj:j<vs.length),j<k->lngV vs[j].es=false)/\Below w.heap.size w wr) (fun i _=>vs.length-(intOf i).toNat)
 case atStart=>exact ⟨0,rfl,Nat.zero_le _,(fun j _ hj=>by omega),Below.refl _ _⟩
 case round =>
  obtain ⟨k,rfl,hk,ht,hb⟩:=hrel
  have HT:=Hd ht
  have HB:=Hd hb
  clear ht hb
  by_cases hlt:k<vs.length
  .have hki:(0:Int)<=(k:Int):=by omega
   have hki':(k:Int)<(vs.length:Int):=by omega
   obtain ⟨b,o,rfl,hbb,hc0⟩:=HC.out k hlt
   have hcell:=(HB.out.cell (p:=⟨b,o+k,none⟩) hbb).trans hc0
   have hk63:(k:Int)+1<=9223372036854775807:=by omega
   clear hc0 hbb
   have hvk:=(HV.out _ (List.getElem_mem hlt)).to HB.out
   have HN:Hid (∀b,lngV vs[k].es=b->lngV vs[k].es=b):=fun _ h=>h
   obtain ⟨v,hve⟩:∃v,vs[k]=v:=⟨_,rfl⟩
   have HVE:=Hd hve
   rw[hve]at hcell hvk
   have hsz:=Nat.le_trans hvk.cap hvk.c63
   have HVK:=Hd hvk
   have HLT:=Hd hlt
   clear hvk HN hve
   by_cases h20:20<v.es.length
   .have hd:decide ((20:Int)<(v.es.length:Int))=true:=decide_eq_true (by omega)
    have hany:Hid (vs.any (fun v=>lngV v.es)=true):=by
     show _=_
     rw[List.any_eq_true]
     exact ⟨vs[k]'HLT.out,List.getElem_mem _,by rw[HVE.out];unfold lngV;rw[decide_eq_true h20];rfl⟩
    clear h20
    go_wp2
    go_ret
    exact ⟨by rw[<-HR.out,hany.out];rfl,HB.out⟩
   .have hd:decide ((20:Int)<(v.es.length:Int))=false:=decide_eq_false (by omega)
    have hd2:¬(20:Int)<(v.es.length:Int):=by omega
    have H20:=Hd h20
    obtain ⟨r1,hr1⟩:∃r1,v.es.any lngE=r1:=⟨_,rfl⟩
    have HR1:=Hd hr1
    clear h20 hr1
    go_wp2_with fail
    refine (flong_v HVK.out (by have:=H20.out;omega) HR1.out).mono ?_
    rintro e V ⟨rfl,bb⟩
    have HB2:=Hxb HB bb
    clear bb
    cases r1 with
    | true =>
     have hany:Hid (vs.any (fun v=>lngV v.es)=true):=by
      show _=_
      rw[List.any_eq_true]
      exact ⟨vs[k]'HLT.out,List.getElem_mem _,by rw[HVE.out];unfold lngV;rw[HR1.out,Bool.or_true]⟩
     go_wp2
     go_ret
     exact ⟨by rw[<-HR.out,hany.out];rfl,HB2.out⟩
    | false =>
     go_wp2
     go_roundw
     case rel =>
      refine ⟨k+1,by simp,HLT.out,fun j hj hjk=>?_,HB2.out⟩
      by_cases hjk':j=k
      .subst hjk'
       rw[HVE.out]
       unfold lngV
       rw[HR1.out,decide_eq_false H20.out]
       rfl
      .exact HT.out j hj (by omega)
     case measure=>have:=HLT.out;simp[intOf];omega
  .obtain rfl:k=vs.length:=by omega
   go_wp2
   go_ret
   refine ⟨?_,HB.out⟩
   rw[<-HR.out,show vs.any (fun v=>lngV v.es)=false from by
    rw[List.any_eq_false]
    intro x hx
    obtain ⟨j,hj,rfl⟩:=List.mem_iff_getElem.1 hx
    simpa using HT.out j hj hj]
   rfl
def TotP (P:World->Nat->E4->Prop)(W:World)(v:Value)(n:Nat)(B:Nat):Prop :=
 (n=0/\v=.slice none 0 0)∨∃g cap fl,v=.slice (some ⟨g,0,none⟩) n cap/\B<=g/\Row W g fl/\fl.length=cap/\n<=cap/\cap<=9223372036854775807 /\
  (∀i,i<n->P W i (fl.getD i E4.z))/\∀i,n<=i->fl.getD i E4.z=E4.z
theorem tot_rowp {P:World->Nat->E4->Prop}{W:World}{g B n:Nat}{fl:List E4}(hg:B<=g)(h:Row W g fl)(hn:n<=fl.length)(hc:fl.length<=9223372036854775807)
  (hq:∀i,i<n->P W i (fl.getD i E4.z)) (hz:∀i,n<=i->fl.getD i E4.z=E4.z):TotP P W (.slice (some ⟨g,0,none⟩) n fl.length) n B :=
 .inr ⟨g,fl.length,fl,rfl,hg,h,rfl,hn,hc,hq,hz⟩
theorem grown_row {W:World}{n C:Nat}{es:List E4}{e:E4}(he:e.fq)(hes:∀x∈es,x.fq)(hl:es.length=n)(hC:n+1<=C) :
  (flat (es++e::List.replicate (C-(n+1)) E4.z)).toArray=((flat es++[e.a,e.b,e.c,e.d]).toArray++Builtin.zeroCells (.agg #[.bool false,.slice none 0 0,.bool false,.slice none 0 0]:Value).cells (C-(n+1))) /\
  Row (W.alloc (.cells (flat (es++e::List.replicate (C-(n+1)) E4.z)).toArray 26)) W.heap.size (es++e::List.replicate (C-(n+1)) E4.z)/\(es++e::List.replicate (C-(n+1)) E4.z).length=C:=by
 refine ⟨?_,⟨World.alloc_heap_new W _,fun x hx=>?_⟩,by simp;omega⟩
 .rw[zero_flat,flat_app]
  apply Array.ext'
  simp[flat]
 .rcases List.mem_append.1 hx with hx|hx
  .exact hes x hx
  .rcases List.mem_cons.1 hx with rfl|hx
   .exact he
   .rw[List.eq_of_mem_replicate hx];exact E4.z_fq
theorem papp {P:World->Nat->E4->Prop}(hP:∀{W V:World} {i:Nat} {e:E4},Kw W V->P W i e->P V i e){W:World}{v:Value}{n:Nat}{B:Nat}(h:TotP P W v n B)(hB:B<=W.heap.size)(hl:n+1<=1000000){e:E4}(he:e.fq)(hq:P W n e){a:Addr}{c:Nat}
  (h0:W.cell? (a.add 0)=some e.a) (h1:W.cell? (a.add 1)=some e.b) (h2:W.cell? (a.add 2)=some e.c) (h3:W.cell? (a.add 3)=some e.d) (ty:TypeId) :
  ∃v' W',(Builtin.append_ #[27,27] ty #[v,.slice (some a) 1 c]).run Tryz.prog W=.ok v' W'/\TotP P W' v' (n+1) B/\Below B W W':=by
 obtain ⟨i0,hi,hz0,hz1,hz2⟩:=info_parts infoQ
 have hnews:∀j u,[e.a,e.b,e.c,e.d][j]?=some u->W.cell? (a.add j)=some u:=fun j u hj=>by
  match j,hj with
  | 0,hj=>simp at hj;subst hj;exact h0
  | 1,hj=>simp at hj;subst hj;exact h1
  | 2,hj=>simp at hj;subst hj;exact h2
  | 3,hj=>simp at hj;subst hj;exact h3
 have last:∀(es:List E4) (k:Nat),es.length=n->∀i,n+1<=i->(es++e::List.replicate k E4.z).getD i E4.z=E4.z:=fun es k hes i hi=>by
  rw[show es++e::List.replicate k E4.z=(es++[e])++List.replicate k E4.z from by simp]
  simp only[List.getD,List.getElem?_append,List.length_append,List.length_cons,List.length_nil,hes,Nat.zero_add,show ¬i<n+1 by omega,if_false,List.getElem?_replicate]
  split<;>rfl
 have here:∀(es:List E4) (k:Nat),es.length=n->(es++e::List.replicate k E4.z).getD n E4.z=e:=fun es k hes=>by
  simp[List.getD,List.getElem?_append,hes]
 rcases h with ⟨rfl,rfl⟩|⟨g,cap,fl,rfl,hg,hr,rfl,hn,hc,hqs,hz⟩
 .have hrun:=run_append_nil (P:=Tryz.prog) (w:=W) 27 ty 26 i0 _ Tryz.underlying27 hi hz0 a 1 c [e.a,e.b,e.c,e.d] (by rw[hz1];rfl) hnews (by decide) (by decide) (by rw[hz2];decide)
  have hge:=grownCap_ge W 1 0 26
  have hle:=grownCap_le_maxLen W 1 0 26 (by unfold maxLen;omega)
  unfold maxLen at hle
  obtain ⟨C,hC⟩:∃C,grownCap W 1 0 26=C:=⟨_,rfl⟩
  rw[hC]at hrun hge hle
  obtain ⟨g1,g2,g3⟩:=grown_row (W:=W.drew) (n:=0) (C:=C) (es:=[]) he (fun x hx=>by cases hx) rfl hge
  have hrun':(Builtin.append_ #[27,27] ty #[.slice none 0 0,.slice (some a) 1 c]).run Tryz.prog W=.ok (.slice (some ⟨W.heap.size,0,none⟩) 1 C) (W.drew.alloc (.cells (flat ([]++e::List.replicate (C-(0+1)) E4.z)).toArray 26)):=by
   rw[g1]
   exact hrun
  have hbb:Below W.heap.size W (W.drew.alloc (.cells (flat ([]++e::List.replicate (C-(0+1)) E4.z)).toArray 26)):=((Below.refl _ W).drew).alloc (Nat.le_refl _) _
  refine ⟨_,_,hrun',?_,hbb.mono hB⟩
  have ht:=tot_rowp (P:=P) (n:=1) (B:=B) (g:=W.heap.size) hB g2 (by rw[g3];exact hge) (by rw[g3];omega) (fun i hi=>by
   obtain rfl:i=0:=by omega
   rw[here [] _ rfl]
   exact hP (Kw.of hbb) hq) (fun i hi=>last [] _ rfl i hi)
  rw[g3]at ht
  exact ht
 .by_cases hroom:n<fl.length
  .refine ⟨_,_,append_q hr hroom he h0 h1 h2 h3 (c:=c) ty,?_,below_setRow (Below.refl _ _) hg _⟩
   have kw:Kw W (W.setRow g (flat (fl.set n e)).toArray):=hr.kw
   have ht:=tot_rowp (P:=P) (n:=n+1) (B:=B) hg (hr.app (n:=n) he) (by rw[List.length_set];omega) (by rw[List.length_set];exact hc) (fun i hi=>by
    by_cases hin:i=n
    .subst hin
     rw[show (fl.set i e).getD i E4.z=e from by simp[List.getD,hroom]]
     exact hP kw hq
    .rw[show (fl.set n e).getD i E4.z=fl.getD i E4.z from by simp[List.getD,List.getElem?_set,Ne.symm hin]]
     exact hP kw (hqs i (by omega))) (fun i hi=>by
    rw[show (fl.set n e).getD i E4.z=fl.getD i E4.z from by simp[List.getD,List.getElem?_set,show n≠i by omega]]
    exact hz i (by omega))
   rwa [List.length_set]at ht
  .obtain rfl:n=fl.length:=by omega
   have holds:∀j u,(flat fl)[j]?=some u->W.cell? ((⟨g,0,none⟩:Addr).add j)=some u:=fun j u hj=>by
    unfold Addr.add
    by_cases hj0:j=0
    .subst hj0;simpa [World.cell?,hr.heap]using hj
    .simpa [hj0,World.cell?,hr.heap]using hj
   have hrun:=run_append_grow (P:=Tryz.prog) (w:=W) 27 ty 26 i0 _ Tryz.underlying27 hi hz0 ⟨g,0,none⟩ fl.length fl.length (flat fl) (by rw[hz1,flat_length]) holds a 1 c [e.a,e.b,e.c,e.d] (by rw[hz1];rfl) hnews (by omega) (by omega)
    (by rw[hz2];exact growslice_fits (by omega) (by omega))
   have hge:=grownCap_ge W (fl.length+1) fl.length 26
   have hle:=grownCap_le_maxLen W (fl.length+1) fl.length 26 (by unfold maxLen;omega)
   unfold maxLen at hle
   obtain ⟨C,hC⟩:∃C,grownCap W (fl.length+1) fl.length 26=C:=⟨_,rfl⟩
   rw[hC]at hrun hge hle
   obtain ⟨g1,g2,g3⟩:=grown_row (W:=W.drew) (n:=fl.length) (C:=C) (es:=fl) he hr.fq rfl hge
   have hrun':(Builtin.append_ #[27,27] ty #[.slice (some ⟨g,0,none⟩) fl.length fl.length,.slice (some a) 1 c]).run Tryz.prog W=.ok (.slice (some ⟨W.heap.size,0,none⟩) (fl.length+1) C) (W.drew.alloc (.cells (flat (fl++e::List.replicate (C-(fl.length+1)) E4.z)).toArray 26)):=by
    rw[g1,show (flat fl++[e.a,e.b,e.c,e.d]).toArray=(flat fl).toArray++[e.a,e.b,e.c,e.d].toArray from by simp]
    exact hrun
   have hbb:Below W.heap.size W (W.drew.alloc (.cells (flat (fl++e::List.replicate (C-(fl.length+1)) E4.z)).toArray 26)):=((Below.refl _ W).drew).alloc (Nat.le_refl _) _
   refine ⟨_,_,hrun',?_,hbb.mono hB⟩
   have ht:=tot_rowp (P:=P) (n:=fl.length+1) (B:=B) (g:=W.heap.size) hB g2 (by rw[g3];exact hge) (by rw[g3];omega) (fun i hi=>by
    by_cases hin:i=fl.length
    .subst hin
     rw[here fl _ rfl]
     exact hP (Kw.of hbb) hq
    .rw[show (fl++e::List.replicate (C-(fl.length+1)) E4.z).getD i E4.z=fl.getD i E4.z from by simp[List.getD,List.getElem?_append,show i<fl.length by omega]]
     exact hP (Kw.of hbb) (hqs i (by omega))) (fun i hi=>last fl _ rfl i hi)
   rw[g3]at ht
   exact ht
theorem TotP.mv {P:World->Nat->E4->Prop}(hP:∀{W V:World} {i:Nat} {e:E4},Kw W V->P W i e->P V i e){W V:World}{v:Value}{n B:Nat}(h:TotP P W v n B)(hb:Below W.heap.size W V):TotP P V v n B:=by
 rcases h with h|⟨g,cap,fl,h1,h2,h3,h4,h5,h6,h7,h8⟩
 .exact .inl h
 .exact .inr ⟨g,cap,fl,h1,h2,h3.to hb,h4,h5,h6,fun i hi=>hP (Kw.of hb) (h7 i hi),h8⟩
theorem TotP.sl {P:World->Nat->E4->Prop}{W:World}{v:Value}{n B:Nat}(h:TotP P W v n B):∃A c,v=.slice A n c:=by
 rcases h with ⟨rfl,rfl⟩|⟨g,cap,fl,rfl,_⟩
 .exact ⟨_,_,rfl⟩
 .exact ⟨_,_,rfl⟩
theorem qapp {W:World}{v:Value}{n:Nat}{f:Nat->Rat}{B:Nat}(h:TotV W v n f B)(hB:B<=W.heap.size)(hl:n+1<=1000000){e:E4}(he:e.fq)(hq:Qc W e.a e.b e.c e.d (f n)){a:Addr}{c:Nat}
  (h0:W.cell? (a.add 0)=some e.a) (h1:W.cell? (a.add 1)=some e.b) (h2:W.cell? (a.add 2)=some e.c) (h3:W.cell? (a.add 3)=some e.d) (ty:TypeId) :
  ∃v' W',(Builtin.append_ #[27,27] ty #[v,.slice (some a) 1 c]).run Tryz.prog W=.ok v' W'/\TotV W' v' (n+1) f B/\Below B W W' :=
 papp (P:=fun W i e=>Qc W e.a e.b e.c e.d (f i)) (fun k h=>k.qc h) h hB hl he hq h0 h1 h2 h3 ty
theorem rints_v {w:World}{A:Option Addr}{c:Nat}{ns:List Int}(h:Rn w A ns)(hn:∀n∈ns,-9223372036854775808<=n/\n<=9223372036854775807)(hl:ns.length+1<=1000000) :
  Calls Tryz.prog 38 #[.slice A ns.length c] w (VR w (ratsOf ns)):=by
 have H:=Hd h
 have HN:=Hd hn
 have HL:=Hd hl
 obtain ⟨f,hf⟩:∃f:Nat->Rat,Hid (f=fun i=>(ratsOf ns).getD i 0):=⟨_,rfl⟩
 obtain ⟨N,hN⟩:∃N,ns.length=N:=⟨_,rfl⟩
 have HNN:=Hd hN
 rw[hN]at hl HL ⊢
 clear h hn hN
 go_enter Tryz.func38,Tryz.ntmps38
 go_wp2
 go_loopw [3,4] (fun v i wr=>∃(k:Nat) (A1:Option Addr) (c1:Nat),v=.slice A1 k c1/\i=.int .i64 k/\k<=N/\Hid (TotV wr (.slice A1 k c1) k f w.heap.size)/\Below w.heap.size w wr) (fun _ i _=>N-(intOf i).toNat)
 case atStart=>exact ⟨0,none,0,rfl,rfl,Nat.zero_le _,.inl ⟨rfl,rfl⟩,Below.refl _ _⟩
 case round =>
  obtain ⟨k,A1,c1,rfl,rfl,hk,hT,hb⟩:=hrel
  by_cases hlt:k<N
  .have hk1:(0:Int)<=(k:Int):=by omega
   have hk2:(k:Int)<(N:Int):=by omega
   have hk3:(k:Int)+1<=9223372036854775807:=by omega
   have hkn:k<ns.length:=by have:=HNN.out;omega
   obtain ⟨b,o,rfl,hc⟩:=H.out k hkn
   have hbn:=HN.out _ (List.getElem_mem hkn)
   have hfk:Hid (f k=((ns[k]:Int):Rat)):=by show _=_;rw[hf.out];simp[ratsOf,List.getD,hkn]
   have cc:=(hb.cell (p:=⟨b,o+k,none⟩) (World.block_lt_of_cell? w _ hc)).trans hc
   generalize ns[k]=n at hbn hfk cc
   have HB:=Hd hb
   have HLT:=Hd hlt
   have HBN:=Hd hbn
   clear hc hb hkn hbn hlt
   go_wp2_with fail
   refine (rint_q n HBN.out.1 HBN.out.2 wr).mono ?_
   rintro e V ⟨x1,x2,x3,x4,rfl,q,bb⟩
   have bb2:Below V.heap.size V (V.alloc (.cells #[x1,x2,x3,x4] 26)):=(Below.refl _ _).alloc (Nat.le_refl _) _
   have c5:=(Hp.new V #[x1,x2,x3,x4] 26).four
   have hB1:=HB.out.trans (bb.mono HB.out.size)
   have hB2:=Bxb hB1 bb2
   obtain ⟨v',X,hrun,hT2,hbel⟩:=qapp ((hT.out.to bb).to bb2) hB2.size (by have:=HL.out;have:=HLT.out;omega) (e:=⟨x1,x2,x3,x4⟩) q.fq (by rw[hfk.out];exact q.to bb2) (a:=⟨V.heap.size,0,none⟩) (c:=1) c5.c0 c5.c1 c5.c2 c5.c3 27
   obtain ⟨A2,c2,rfl⟩:=hT2.sl
   have HRUN:=Hd hrun
   have HE:Hid (TotV X (.slice A2 (k+1) c2) (k+1) f w.heap.size/\Below w.heap.size w X):=⟨hT2,hB2.trans hbel⟩
   clear bb2 c5 hbel hrun bb q hT2 hB1 hB2
   go_wp2_with (at_builtin;refine wpList_append_run rfl (.tmp 11) (.tmp 17) 27 rfl (by rfl) (by rfl) HRUN.out ?_;clear HRUN)
   go_roundw
   case rel=>exact ⟨k+1,A2,c2,rfl,by simp,HLT.out,HE.out.1,HE.out.2⟩
   case measure=>have:=HLT.out;simp[intOf];omega
  .obtain rfl:k=N:=by omega
   have HT:=hT
   have HB:=Hd hb
   clear hT hb hlt
   go_wp2
   go_ret
   have h1:=HT.out
   have h2:(ratsOf ns).length=k:=by rw[ratsOf_length,HNN.out]
   rw[hf.out]at h1
   subst h2
   exact h1.vr (by have:=HL.out;omega) HB.out
theorem rat_in {w:World}{b o n c k:Nat}{n1 n2:Bool}{A1 A2:Option Addr}{j1 m1 j2 m2:Nat}(hk:k<n)(hn:n<=9223372036854775807)(hb:b<w.heap.size)
  (h0:w.cell? ⟨b,o+k*4,none⟩=some (.bool n1)) (h1:w.cell? ⟨b,o+k*4+1,none⟩=some (.slice A1 j1 m1)) (h2:w.cell? ⟨b,o+k*4+2,none⟩=some (.bool n2)) (h3:w.cell? ⟨b,o+k*4+3,none⟩=some (.slice A2 j2 m2)) :
  Calls Tryz.prog 58 #[.slice (some ⟨b,o,none⟩) n c,.int .i64 k] w fun e w'=>e=.returned (.agg #[.bool n1,.slice A1 j1 m1,.bool n2,.slice A2 j2 m2])/\Below w.heap.size w w':=by
 have hbw:Below w.heap.size w (w.alloc (.cells #[.bool false,.slice none 0 0,.bool false,.slice none 0 0] 26)):=(Below.refl _ _).alloc (Nat.le_refl _) _
 have f0:=(hbw.cell (p:=⟨b,o+k*4,none⟩) hb).trans h0
 have f1:=(hbw.cell (p:=⟨b,o+k*4+1,none⟩) hb).trans h1
 have f2:=(hbw.cell (p:=⟨b,o+k*4+2,none⟩) hb).trans h2
 have f3:=(hbw.cell (p:=⟨b,o+k*4+3,none⟩) hb).trans h3
 have hk0:(k:Int)<(n:Int):=by omega
 have hk1:(0:Int)<=(k:Int):=by omega
 clear hbw h0 h1 h2 h3 hb
 go_enter Tryz.func58,Tryz.ntmps58
 go_wp2
 refine bodyPost_ret (v:=.agg #[.bool n1,.slice A1 j1 m1,.bool n2,.slice A2 j2 m2]) (by simp[results,Tryz.f58,go_sem]) rfl ?_
 exact ⟨rfl,(Below.refl _ _).alloc (Nat.le_refl _) _⟩
theorem rat_out {w:World}{A:Option Addr}{n c k:Nat}(hk:¬k<n) :
  Calls Tryz.prog 58 #[.slice A n c,.int .i64 k] w fun e w'=>e=.returned (.agg #[.bool false,.slice none 0 0,.bool false,.slice none 0 0])/\Below w.heap.size w w':=by
 have hk0:¬(k:Int)<(n:Int):=by omega
 have hk1:(0:Int)<=(k:Int):=by omega
 clear hk
 go_enter Tryz.func58,Tryz.ntmps58
 go_wp2
 refine bodyPost_ret (v:=.agg #[.bool false,.slice none 0 0,.bool false,.slice none 0 0]) (by simp[results,Tryz.f58,go_sem]) rfl ?_
 exact ⟨rfl,(Below.refl _ _).alloc (Nat.le_refl _) _⟩
theorem rat_v {w:World}{B:Nat}{A:Option Addr}{c k:Nat}{es:List E4}(h:Rq w B A es)(hq:∀e∈es,e.fq)(hl:es.length<=9223372036854775807) :
  Calls Tryz.prog 58 #[.slice A es.length c,.int .i64 k] w fun e w'=>e=.returned (.agg #[(es.getD k E4.z).a,(es.getD k E4.z).b,(es.getD k E4.z).c,(es.getD k E4.z).d])/\Below w.heap.size w w':=by
 by_cases hk:k<es.length
 .obtain ⟨b,o,rfl,hb,h0,h1,h2,h3⟩:=h k hk
  rw[getD_at' hk]
  have hf:=hq _ (List.getElem_mem hk)
  generalize es[k]=e at h0 h1 h2 h3 hf
  obtain ⟨e1,e2,e3,e4⟩:=e
  obtain ⟨⟨n1,A1,k1,c1,g1,g2⟩,⟨n2,A2,k2,c2,g3,g4⟩⟩:=hf
  dsimp only at g1 g2 g3 g4 h0 h1 h2 h3
  subst g1 g2 g3 g4
  exact rat_in hk hl (World.block_lt_of_cell? w _ h0) h0 h1 h2 h3
 .rw[getD_out hk]
  exact rat_out hk
theorem rfit_v {w:World}{A:Option Addr}{c:Nat}{es:List E4}{rs:List Rat}{k:Nat}(hA:Vi w A c es rs k)(hk0:0<k)(hk:k<=10000)(h1:rs.length<=4398046511104){n:Int}(hn2:n<=9223372036854775807) :
  Calls Tryz.prog 34 #[.slice A rs.length c,.int .i64 n] w (VR w (fitQ rs n)):=by
 have H:=Hd hA
 have HK:=Hd hk
 have HK0:=Hd hk0
 have HL:Hid (es.length=rs.length/\es.length<=9223372036854775807):=⟨hA.len,by have:=hA.len;omega⟩
 obtain ⟨f,hf⟩:∃f:Nat->Rat,Hid (f=fun i=>(fitQ rs n).getD i 0):=⟨_,rfl⟩
 obtain ⟨M,hM⟩:∃M:Nat,min n.toNat 65536=M:=⟨_,rfl⟩
 have HM:=Hd hM
 have hM2:M<=65536:=by omega
 obtain ⟨L,hL⟩:∃L,rs.length=L:=⟨_,rfl⟩
 have HLL:=Hd hL
 rw[hL]at h1 ⊢
 clear hA hk hk0 h1 hM hL
 go_enter Tryz.func34,Tryz.ntmps34
 go_wp2
 go_loopw [5,6] (fun v i wr=>∃(k:Nat) (A1:Option Addr) (c1:Nat),v=.slice A1 k c1/\i=.int .i64 k/\k<=M/\Hid (TotV wr (.slice A1 k c1) k f w.heap.size)/\Below w.heap.size w wr) (fun _ i _=>M-(intOf i).toNat)
 case atStart=>exact ⟨0,none,0,rfl,rfl,Nat.zero_le _,.inl ⟨rfl,rfl⟩,Below.refl _ _⟩
 case round =>
  obtain ⟨j,A1,c1,rfl,rfl,hj,hT,hb⟩:=hrel
  have hj0:(0:Int)<=(j:Int):=by omega
  have hj3:(j:Int)+1<=9223372036854775807:=by omega
  by_cases hlt:j<M
  .have hjn:(j:Int)<n:=by have:=HM.out;omega
   have hj2:(j:Int)<65536:=by omega
   have HAT:=Hd (rat_v (k:=j) (c:=c) ((H.out.row).to hb) H.out.fq HL.out.2)
   rw[HL.out.1,HLL.out]at HAT
   have hel:=H.out.el j
   have hfk:Hid (f j=rs.getD j 0):=by show _=_;rw[hf.out];exact fitQ_in (by rw[HM.out];exact hlt)
   have HQ:=Hd (hel.to hb)
   have HB:=Hd hb
   have HLT:=Hd hlt
   clear hel hb hlt hj
   generalize es.getD j E4.z=E at HAT HQ
   go_wp2_with fail
   refine HAT.out.mono ?_
   rintro e V1 ⟨rfl,b1⟩
   have HQ1:=Hd (HQ.out.to b1)
   have HB1:=Hxb HB b1
   have HT1:=Hd (hT.out.to b1)
   clear b1 HAT
   go_wp2_with fail
   refine (rleast_q HQ1.out HK0.out HK.out).mono ?_
   rintro e V ⟨x1,x2,x3,x4,rfl,q,bb⟩
   have bb2:Below V.heap.size V (V.alloc (.cells #[x1,x2,x3,x4] 26)):=(Below.refl _ _).alloc (Nat.le_refl _) _
   have c5:=(Hp.new V #[x1,x2,x3,x4] 26).four
   have hB1:=HB1.out.trans (bb.mono HB1.out.size)
   have hB2:=Bxb hB1 bb2
   obtain ⟨v',X,hrun,hT2,hbel⟩:=qapp ((HT1.out.to bb).to bb2) hB2.size (by have:=HLT.out;omega) (e:=⟨x1,x2,x3,x4⟩) q.fq (by rw[hfk.out];exact q.to bb2) (a:=⟨V.heap.size,0,none⟩) (c:=1) c5.c0 c5.c1 c5.c2 c5.c3 27
   obtain ⟨A2,c2,rfl⟩:=hT2.sl
   have HRUN:=Hd hrun
   have HE:Hid (TotV X (.slice A2 (j+1) c2) (j+1) f w.heap.size/\Below w.heap.size w X):=⟨hT2,hB2.trans hbel⟩
   clear bb2 c5 hbel hrun bb q hT2 hB1 hB2
   go_wp2_with (at_builtin;refine wpList_append_run rfl (.tmp 16) (.tmp 21) 27 rfl (by rfl) (by rfl) HRUN.out ?_;clear HRUN)
   go_roundw
   case rel=>exact ⟨j+1,A2,c2,rfl,by simp,HLT.out,HE.out.1,HE.out.2⟩
   case measure=>have:=HLT.out;simp[intOf];omega
  .have hjM:j=M:=by omega
   have FIN:Hid (VR w (fitQ rs n) (.returned (.slice A1 j c1)) wr):=by
    have h1:=hT.out
    have h2:(fitQ rs n).length=j:=by rw[fitQ_length,HM.out,hjM]
    rw[hf.out]at h1
    subst h2
    exact h1.vr (by omega) hb
   have HM2:=HM.out
   by_cases hjn:(j:Int)<n
   .have hj2:¬(j:Int)<65536:=by omega
    clear hb hlt hT HM2 hjM hM2
    go_wp2
    go_ret
    exact FIN.out
   .clear hb hlt hT HM2 hjM hM2
    go_wp2
    go_ret
    exact FIN.out
theorem wpList_storeq' {W W':World}{ops:Array Oper}{rest:List Oper}{o:Oper}{a:Act}{Q:Exit->Act->World->Prop}{g k:Nat}{fl:List E4}{e:E4}(hW:W'=W.setRow g (flat (fl.set k e)).toArray)
  (hg:o.guard=none) (p v:Operand) (hop:o.op=Op.store 26 p v) (hp:a.eval p=.pointer (some ⟨g,k*4,none⟩)) (hv:a.eval v=e.v) (h:Row W g fl) (hk:k<fl.length) (he:e.fq)
  (hK:wpList Tryz.prog ops Q rest (a.put o.dst undef) W'):wpList Tryz.prog ops Q (o::rest) a W:=by
 subst hW
 exact wpList_storeq hg p v hop hp hv h hk he hK
theorem runit_v {w:World}{n m:Int}(hn2:n<=9223372036854775807) :
  Calls Tryz.prog 36 #[.int .i64 n,.int .i64 m] w (VR w (unitQ n m)):=by
 obtain ⟨f,hf⟩:∃f:Nat->Rat,Hid (f=fun i=>(unitQ n m).getD i 0):=⟨_,rfl⟩
 obtain ⟨M,hM⟩:∃M:Nat,min n.toNat 65536=M:=⟨_,rfl⟩
 have HM:=Hd hM
 have hM2:M<=65536:=by omega
 clear hM
 go_enter Tryz.func36,Tryz.ntmps36
 go_wp2
 go_loopw [5,6] (fun v i wr=>∃(k:Nat) (A1:Option Addr) (c1:Nat),v=.slice A1 k c1/\i=.int .i64 k/\k<=M/\Hid (TotV wr (.slice A1 k c1) k f w.heap.size)/\Below w.heap.size w wr) (fun _ i _=>M-(intOf i).toNat)
 case atStart=>exact ⟨0,none,0,rfl,rfl,Nat.zero_le _,.inl ⟨rfl,rfl⟩,Below.refl _ _⟩
 case round =>
  obtain ⟨j,A1,c1,rfl,rfl,hj,hT,hb⟩:=hrel
  have hj0:(0:Int)<=(j:Int):=by omega
  have hj3:(j:Int)+1<=9223372036854775807:=by omega
  by_cases hlt:j<M
  .have hjn:(j:Int)<n:=by have:=HM.out;omega
   have hj2:(j:Int)<65536:=by omega
   have hfj:Hid (f j=if (j:Int)=m then (1:Rat) else 0):=by show _=_;rw[hf.out];exact unitQ_in (by rw[HM.out];exact hlt)
   have HLT:=Hd hlt
   have bU:Below wr.heap.size wr (wr.alloc (.cells #[.bool false,.slice none 0 0,.bool false,.slice none 0 0] 26)):=(Below.refl _ _).alloc (Nat.le_refl _) _
   have HU:=Hd (Hp.new wr #[.bool false,.slice none 0 0,.bool false,.slice none 0 0] 26)
   by_cases hjm:(j:Int)=m
   .have hf1:Hid (f j=1):=by show _=_;rw[hfj.out,if_pos hjm]
    have HBS:=Hd hb
    have HBU:=Hd bU
    subst hjm
    clear hb hlt hj bU hfj
    go_wp2_with fail
    refine (rint_q 1 (by omega) (by omega) (wr.alloc (.cells #[.bool false,.slice none 0 0,.bool false,.slice none 0 0] 26))).mono ?_
    rintro e V ⟨x1,x2,x3,x4,rfl,q,bb⟩
    have hR:Row V wr.heap.size [E4.z]:=(Row.one (HU.out) E4.z_fq).to bb
    have R1:=Hd hR
    obtain ⟨W2,hW2⟩:∃W2,W2=V.setRow wr.heap.size (flat ([E4.z].set 0 ⟨x1,x2,x3,x4⟩)).toArray:=⟨_,rfl⟩
    have kw:Kw V W2:=by rw[hW2];exact hR.kw
    have t4:Four W2 wr.heap.size x1 x2 x3 x4:=by rw[hW2];exact (hR.app (n:=0) (e:=⟨x1,x2,x3,x4⟩) q.fq).four
    have bW:Below wr.heap.size wr W2:=by
     rw[hW2]
     exact below_setRow (HBU.out.trans (bb.mono HBU.out.size)) (Nat.le_refl _) _
    have QF:=Hd q.fq
    have q2:Qc W2 x1 x2 x3 x4 (f j):=by rw[hf1.out];exact kw.qc q
    have HW2:=Hd hW2
    have bb2:Below W2.heap.size W2 (W2.alloc (.cells #[x1,x2,x3,x4] 26)):=(Below.refl _ _).alloc (Nat.le_refl _) _
    have c5:=(Hp.new W2 #[x1,x2,x3,x4] 26).four
    have hB1:=HBS.out.trans (bW.mono HBS.out.size)
    have hB2:=Bxb hB1 bb2
    obtain ⟨v',X,hrun,hT2,hbel⟩:=qapp ((hT.out.to bW).to bb2) hB2.size (by have:=HLT.out;omega) (e:=⟨x1,x2,x3,x4⟩) q.fq (q2.to bb2) (a:=⟨W2.heap.size,0,none⟩) (c:=1) c5.c0 c5.c1 c5.c2 c5.c3 27
    obtain ⟨A2,c2,rfl⟩:=hT2.sl
    have HRUN:=Hd hrun
    have HE:Hid (TotV X (.slice A2 (j+1) c2) (j+1) f w.heap.size/\Below w.heap.size w X):=⟨hT2,hB2.trans hbel⟩
    have k0:=t4.c0
    have k1:=t4.c1
    have k2:=t4.c2
    have k3:=t4.c3
    clear bb2 c5 hbel hrun bb q q2 hT2 hB1 hB2 hR kw hW2 t4 bW
    go_wp2_with (first
     | (refine wpList_storeq' (k:=0) (e:=⟨x1,x2,x3,x4⟩) HW2.out rfl (.tmp 7) (.tmp 21) rfl (by rfl) (by rfl) R1.out (by simp) QF.out ?_;clear R1)
     | (at_builtin;refine wpList_append_run rfl (.tmp 22) (.tmp 24) 27 rfl (by rfl) (by rfl) HRUN.out ?_;clear HRUN))
    go_roundw
    case rel=>exact ⟨j+1,A2,c2,rfl,by simp,HLT.out,HE.out.1,HE.out.2⟩
    case measure=>have:=HLT.out;simp[intOf];omega
   .have hf0:Hid (f j=0):=by show _=_;rw[hfj.out,if_neg hjm]
    have q0:Qc (wr.alloc (.cells #[.bool false,.slice none 0 0,.bool false,.slice none 0 0] 26)) (.bool false) (.slice none 0 0) (.bool false) (.slice none 0 0) (f j):=by rw[hf0.out];exact qc_z _
    have hB1:=Bxb hb bU
    have bb2:Below (wr.alloc (.cells #[.bool false,.slice none 0 0,.bool false,.slice none 0 0] 26)).heap.size (wr.alloc (.cells #[.bool false,.slice none 0 0,.bool false,.slice none 0 0] 26)) ((wr.alloc (.cells #[.bool false,.slice none 0 0,.bool false,.slice none 0 0] 26)).alloc (.cells #[.bool false,.slice none 0 0,.bool false,.slice none 0 0] 26)):=(Below.refl _ _).alloc (Nat.le_refl _) _
    have c5:=(Hp.new (wr.alloc (.cells #[.bool false,.slice none 0 0,.bool false,.slice none 0 0] 26)) #[.bool false,.slice none 0 0,.bool false,.slice none 0 0] 26).four
    have hB2:=Bxb hB1 bb2
    obtain ⟨v',X,hrun,hT2,hbel⟩:=qapp ((hT.out.to bU).to bb2) hB2.size (by have:=HLT.out;omega) (e:=E4.z) E4.z_fq (q0.to bb2) (a:=⟨(wr.alloc (.cells #[.bool false,.slice none 0 0,.bool false,.slice none 0 0] 26)).heap.size,0,none⟩) (c:=1) c5.c0 c5.c1 c5.c2 c5.c3 27
    obtain ⟨A2,c2,rfl⟩:=hT2.sl
    have HE:Hid (TotV X (.slice A2 (j+1) c2) (j+1) f w.heap.size/\Below w.heap.size w X):=⟨hT2,hB2.trans hbel⟩
    rw[World.size_alloc]at hrun
    have HRUN:=Hd hrun
    have t4:=(HU.out).four
    have k0:=t4.c0
    have k1:=t4.c1
    have k2:=t4.c2
    have k3:=t4.c3
    have hd1:((j:Int)==m)=false:=by simpa using hjm
    have hd2:decide ((j:Int)=m)=false:=by simpa using hjm
    clear bb2 c5 hbel hrun q0 hT2 hB1 hB2 t4 bU hb hlt hj hfj hjm
    go_wp2_with (at_builtin;refine wpList_append_run rfl (.tmp 22) (.tmp 24) 27 rfl (by rfl) (by rfl) HRUN.out ?_;clear HRUN)
    go_roundw
    case rel=>exact ⟨j+1,A2,c2,rfl,by simp,HLT.out,HE.out.1,HE.out.2⟩
    case measure=>have:=HLT.out;simp[intOf];omega
  .have hjM:j=M:=by omega
   have FIN:Hid (VR w (unitQ n m) (.returned (.slice A1 j c1)) wr):=by
    have h1:=hT.out
    have h2:(unitQ n m).length=j:=by rw[unitQ_length,HM.out,hjM]
    rw[hf.out]at h1
    subst h2
    exact h1.vr (by omega) hb
   have HM2:=HM.out
   by_cases hjn:(j:Int)<n
   .have hj2:¬(j:Int)<65536:=by omega
    clear hb hlt hT HM2 hjM hM2
    go_wp2
    go_ret
    exact FIN.out
   .clear hb hlt hT HM2 hjM hM2
    go_wp2
    go_ret
    exact FIN.out
theorem op_append_run {P:Program}{d:Option Tmp}{ty:TypeId}{pos:String}{after:Array Edge}{guard:Option (Nat×Bool)}{a:Act}{w w':World}{v y v':Value}{K:Act->World->Prop}{Q:Exit->Act->World->Prop}(s x:Operand)(t u:TypeId)
  (hs:a.eval s=v) (hx:a.eval x=y) (hrun:(Builtin.append_ #[t,u] ty #[v,y]).run P w=.ok v' w') (hK:K (a.put d v') w') :
  Oper.wp P ⟨d,.call { callee:=.builtin .append,args:=#[s,x],argTypes:=#[t,u] },ty,pos,after,guard⟩ a w K Q:=by
 unfold Oper.wp execOp
 simp only[resolve,invoke,builtin,Sem.run_bind,Sem.run_pure,Result.andThen_ok,List.map_toArray,List.map_cons,List.map_nil,hs,hx,hrun]
 exact hK
theorem rcomb_v {w:World}{t1 t2 t3 t4:Value}{t:Rat}{m:Nat}{A A':Option Addr}{c c':Nat}{es fs:List E4}{rs ss:List Rat}{k l:Nat}(hT:Qi w t1 t2 t3 t4 t m)(hA:Vi w A c es rs k)(hB:Vi w A' c' fs ss l)(hm0:0<m)(hk0:0<k)(hl0:0<l)
  (hN:m+k+l+1<=10000) (h1:rs.length+1<=1000000) (h2:ss.length+1<=1000000) :
  Calls Tryz.prog 23 #[.agg #[t1,t2,t3,t4],.slice A rs.length c,.slice A' ss.length c'] w (VR w (ptw (fun r s=>t*r+s) rs ss)):=by
 have mM:∀i,Qm (m+k) (t*rs.getD i 0):=fun i=>(hT.qm hm0).mul ((hA.el i).qm hk0)
 have HX:=Hd (fun (V:World) (i:Nat) (hV:Below w.heap.size w V)=>rat_v (c:=c) (k:=i) (hA.row.grow hV) hA.fq (by have:=hA.len;omega))
 have HY:=Hd (fun (V:World) (i:Nat) (hV:Below w.heap.size w V)=>rat_v (c:=c') (k:=i) (hB.row.grow hV) hB.fq (by have:=hB.len;omega))
 have HM:=Hd (fun (V:World) (i:Nat) (hV:Below w.heap.size w V)=>rmul_q (hT.to hV) ((hA.el i).to hV) hm0 hk0 (by omega))
 have HA:=Hd (fun (V:World) (i:Nat) (hV:Below w.heap.size w V) (x1 x2 x3 x4:Value) (q:Qc V x1 x2 x3 x4 (t*rs.getD i 0))=>radd_q (q.qi (mM i) (by omega)) ((hB.el i).to hV) (by omega) hl0 (by omega))
 obtain ⟨f,hf⟩:∃f:Nat->Rat,Hid (f=fun i=>(ptw (fun r s=>t*r+s) rs ss).getD i 0):=⟨_,rfl⟩
 have hfi:Hid (∀i,t*rs.getD i 0+ss.getD i 0=f i):=fun i=>by rw[hf.out];exact (ptw_getD (F:=fun r s=>t*r+s) (by rw[Rat.mul_zero,Rat.add_zero]) rs ss i).symm
 rw[hA.len]at HX
 rw[hB.len]at HY
 obtain ⟨L,hL⟩:∃L,rs.length=L:=⟨_,rfl⟩
 obtain ⟨M,hM⟩:∃M,ss.length=M:=⟨_,rfl⟩
 have HLN:Hid ((ptw (fun r s=>t*r+s) rs ss).length=max L M):=by show _=_;rw[ptw_length,hL,hM]
 rw[hL]at HX h1 ⊢
 rw[hM]at HY h2 ⊢
 obtain ⟨W0,hW0⟩:∃W0,W0=w.alloc (.cells #[t1,t2,t3,t4] 26):=⟨_,rfl⟩
 have hbw:Below w.heap.size w W0:=by rw[hW0];exact (Below.refl _ _).alloc (Nat.le_refl _) _
 have tT:Four W0 w.heap.size t1 t2 t3 t4:=by rw[hW0];exact Four.new w _ _ _ _ _
 have HT:=Hd tT
 have HW:=Hd hbw
 have HW0:=Hd hW0
 clear hT hA hB hm0 hk0 hl0 hN hL hM mM tT hbw hW0
 go_enter Tryz.func23,Tryz.ntmps23
 go_wp2
 rw[<-HW0.out]
 clear HW0
 go_loopw [7,8] (fun v i wr=>∃(k:Nat) (A1:Option Addr) (c1:Nat),v=.slice A1 k c1/\i=.int .i64 k/\k<=max L M/\Hid (TotV wr (.slice A1 k c1) k f W0.heap.size)/\Below W0.heap.size W0 wr) (fun _ i _=>max L M-(intOf i).toNat)
 case atStart=>exact ⟨0,none,0,rfl,rfl,Nat.zero_le _,.inl ⟨rfl,rfl⟩,Below.refl _ _⟩
 case round =>
  obtain ⟨j,A1,c1,rfl,rfl,hj,hT,hb⟩:=hrel
  have hj0:(0:Int)<=(j:Int):=by omega
  have hj3:(j:Int)+1<=9223372036854775807:=by omega
  have HBB:=Hd hb
  by_cases hx:j<L
  .have hx1:(j:Int)<(L:Int):=by omega
   have HLT:Hid (j<max L M/\j+1<=1000000):=by show _/\_;omega
   clear hb hx hj
   go_wp2_with fail
   refine wp_region_plan (S:=fun w'=>Below W0.heap.size W0 w') [(0,true),(1,true),(2,true),(3,true),(6,true),(7,true),(4,false),(5,false),(8,false),(9,false),(10,false),(11,false),(12,true)] (by kernel_rfl) (by kernel_rfl) HBB.out.drew ?_
   refine plan_take (v:=?_) rfl (by rfl) ?_ ?_;rotate_left;(focus (intro w' _;go_simp;try with_reducible rfl));simp only[Act.put,List.setIfInBounds_toArray,List.set_cons_zero,List.set_cons_succ]
   refine plan_take rfl (by rfl) (fun w' hS=>load_four (by rfl) (HT.out.to hS)) ?_;simp only[Act.put,List.setIfInBounds_toArray,List.set_cons_zero,List.set_cons_succ]
   iterate 4 (refine plan_take (v:=?_) rfl (by rfl) ?_ ?_;rotate_left;(focus (intro w' _;go_simp;try with_reducible rfl));simp only[Act.put,List.setIfInBounds_toArray,List.set_cons_zero,List.set_cons_succ])
   have hb:=HBB.out.drew
   have hT1:=hT.out.to (Below.refl wr.heap.size wr).drew
   refine plan_call rfl (by rfl) (fun K hK=>?_)
   go_simp
   refine (HX.out _ j (HW.out.trans (hb.mono HW.out.size))).mono ?_
   rintro e V ⟨rfl,bb⟩
   replace hb:=Bxb hb bb
   replace hT1:=hT1.to bb
   refine hK.out _ _ hb ?_
   clear hK K bb
   refine plan_call rfl (by rfl) (fun K hK=>?_)
   go_simp
   refine (HM.out _ j (HW.out.trans (hb.mono HW.out.size))).mono ?_
   rintro e V ⟨y1,y2,y3,y4,rfl,q,bb⟩
   replace hb:=Bxb hb bb
   replace hT1:=hT1.to bb
   refine hK.out _ _ hb ?_
   clear hK K bb
   refine plan_call rfl (by rfl) (fun K hK=>?_)
   go_simp
   refine (HY.out _ j (HW.out.trans (hb.mono HW.out.size))).mono ?_
   rintro e V ⟨rfl,bb⟩
   replace hb:=Bxb hb bb
   replace hT1:=hT1.to bb
   replace q:=q.to bb
   refine hK.out _ _ hb ?_
   clear hK K bb
   refine plan_call rfl (by rfl) (fun K hK=>?_)
   go_simp
   refine (HA.out _ j (HW.out.trans (hb.mono HW.out.size)) _ _ _ _ q).mono ?_
   rintro e V ⟨x1,x2,x3,x4,rfl,q2,bb⟩
   replace hb:=Bxb hb bb
   replace hT1:=hT1.to bb
   refine hK.out _ _ hb ?_
   clear hK K bb
   clear q
   rw[hfi.out]at q2
   have bb2:Below V.heap.size V (V.alloc (.cells #[x1,x2,x3,x4] 26)):=(Below.refl _ _).alloc (Nat.le_refl _) _
   have c5:=(Hp.new V #[x1,x2,x3,x4] 26).four
   have hb2:=Bxb hb bb2
   obtain ⟨v',X,hrun,hT2,hbel⟩:=qapp (hT1.to bb2) hb2.size HLT.out.2 (e:=⟨x1,x2,x3,x4⟩) q2.fq (q2.to bb2) (a:=⟨V.heap.size,0,none⟩) (c:=1) c5.c0 c5.c1 c5.c2 c5.c3 27
   obtain ⟨A2,c2,rfl⟩:=hT2.sl
   have HE:Hid (TotV X (.slice A2 (j+1) c2) (j+1) f W0.heap.size/\Below W0.heap.size W0 X):=⟨hT2,hb2.trans hbel⟩
   refine plan_call rfl (by rfl) (fun K hK=>?_)
   go_simp
   refine hK.out _ _ hb2 ?_
   clear hK K
   refine plan_call rfl (by rfl) (fun K hK=>?_)
   refine op_append_run (.tmp 21) (.tmp 31) _ _ (by rfl) (by rfl) hrun ?_
   refine hK.out _ _ HE.out.2 ?_
   clear hK K hrun hT2 hbel hb2 c5 bb2 q2 hb hT1
   refine plan_take (v:=?_) rfl (by rfl) ?_ ?_;rotate_left;(focus (intro w' _;go_simp;try with_reducible rfl));simp only[Act.put,List.setIfInBounds_toArray,List.set_cons_zero,List.set_cons_succ]
   refine plan_done ?_
   go_wp2
   go_roundw
   case rel=>exact ⟨j+1,A2,c2,rfl,by simp,HLT.out.1,HE.out.1,HE.out.2⟩
   case measure=>have:=HLT.out;simp[intOf];omega
  .have hx1:¬(j:Int)<(L:Int):=by omega
   by_cases hy:j<M
   .have hy1:(j:Int)<(M:Int):=by omega
    have HLT:Hid (j<max L M/\j+1<=1000000):=by show _/\_;omega
    clear hb hx hy hj
    go_wp2_with fail
    refine wp_region_plan (S:=fun w'=>Below W0.heap.size W0 w') [(0,true),(1,true),(2,true),(3,true),(6,true),(7,true),(4,false),(5,false),(8,false),(9,false),(10,false),(11,false),(12,true)] (by kernel_rfl) (by kernel_rfl) HBB.out.drew ?_
    refine plan_take (v:=?_) rfl (by rfl) ?_ ?_;rotate_left;(focus (intro w' _;go_simp;try with_reducible rfl));simp only[Act.put,List.setIfInBounds_toArray,List.set_cons_zero,List.set_cons_succ]
    refine plan_take rfl (by rfl) (fun w' hS=>load_four (by rfl) (HT.out.to hS)) ?_;simp only[Act.put,List.setIfInBounds_toArray,List.set_cons_zero,List.set_cons_succ]
    iterate 4 (refine plan_take (v:=?_) rfl (by rfl) ?_ ?_;rotate_left;(focus (intro w' _;go_simp;try with_reducible rfl));simp only[Act.put,List.setIfInBounds_toArray,List.set_cons_zero,List.set_cons_succ])
    have hb:=HBB.out.drew
    have hT1:=hT.out.to (Below.refl wr.heap.size wr).drew
    refine plan_call rfl (by rfl) (fun K hK=>?_)
    go_simp
    refine (HX.out _ j (HW.out.trans (hb.mono HW.out.size))).mono ?_
    rintro e V ⟨rfl,bb⟩
    replace hb:=Bxb hb bb
    replace hT1:=hT1.to bb
    refine hK.out _ _ hb ?_
    clear hK K bb
    refine plan_call rfl (by rfl) (fun K hK=>?_)
    go_simp
    refine (HM.out _ j (HW.out.trans (hb.mono HW.out.size))).mono ?_
    rintro e V ⟨y1,y2,y3,y4,rfl,q,bb⟩
    replace hb:=Bxb hb bb
    replace hT1:=hT1.to bb
    refine hK.out _ _ hb ?_
    clear hK K bb
    refine plan_call rfl (by rfl) (fun K hK=>?_)
    go_simp
    refine (HY.out _ j (HW.out.trans (hb.mono HW.out.size))).mono ?_
    rintro e V ⟨rfl,bb⟩
    replace hb:=Bxb hb bb
    replace hT1:=hT1.to bb
    replace q:=q.to bb
    refine hK.out _ _ hb ?_
    clear hK K bb
    refine plan_call rfl (by rfl) (fun K hK=>?_)
    go_simp
    refine (HA.out _ j (HW.out.trans (hb.mono HW.out.size)) _ _ _ _ q).mono ?_
    rintro e V ⟨x1,x2,x3,x4,rfl,q2,bb⟩
    replace hb:=Bxb hb bb
    replace hT1:=hT1.to bb
    refine hK.out _ _ hb ?_
    clear hK K bb
    clear q
    rw[hfi.out]at q2
    have bb2:Below V.heap.size V (V.alloc (.cells #[x1,x2,x3,x4] 26)):=(Below.refl _ _).alloc (Nat.le_refl _) _
    have c5:=(Hp.new V #[x1,x2,x3,x4] 26).four
    have hb2:=Bxb hb bb2
    obtain ⟨v',X,hrun,hT2,hbel⟩:=qapp (hT1.to bb2) hb2.size HLT.out.2 (e:=⟨x1,x2,x3,x4⟩) q2.fq (q2.to bb2) (a:=⟨V.heap.size,0,none⟩) (c:=1) c5.c0 c5.c1 c5.c2 c5.c3 27
    obtain ⟨A2,c2,rfl⟩:=hT2.sl
    have HE:Hid (TotV X (.slice A2 (j+1) c2) (j+1) f W0.heap.size/\Below W0.heap.size W0 X):=⟨hT2,hb2.trans hbel⟩
    refine plan_call rfl (by rfl) (fun K hK=>?_)
    go_simp
    refine hK.out _ _ hb2 ?_
    clear hK K
    refine plan_call rfl (by rfl) (fun K hK=>?_)
    refine op_append_run (.tmp 21) (.tmp 31) _ _ (by rfl) (by rfl) hrun ?_
    refine hK.out _ _ HE.out.2 ?_
    clear hK K hrun hT2 hbel hb2 c5 bb2 q2 hb hT1
    refine plan_take (v:=?_) rfl (by rfl) ?_ ?_;rotate_left;(focus (intro w' _;go_simp;try with_reducible rfl));simp only[Act.put,List.setIfInBounds_toArray,List.set_cons_zero,List.set_cons_succ]
    refine plan_done ?_
    go_wp2
    go_roundw
    case rel=>exact ⟨j+1,A2,c2,rfl,by simp,HLT.out.1,HE.out.1,HE.out.2⟩
    case measure=>have:=HLT.out;simp[intOf];omega
   .have hy1:¬(j:Int)<(M:Int):=by omega
    have hjM:j=max L M:=by omega
    have FIN:Hid (VR w (ptw (fun r s=>t*r+s) rs ss) (.returned (.slice A1 j c1)) wr):=by
     have h3:=hT.out
     have h4:(ptw (fun r s=>t*r+s) rs ss).length=j:=by rw[HLN.out,hjM]
     rw[hf.out]at h3
     subst h4
     obtain ⟨A9,c9,e9,r1,r2,r3⟩:=h3.vr (by omega) hb
     exact ⟨A9,c9,e9,r1,r2,HW.out.trans (r3.mono HW.out.size)⟩
    clear hb hx hy hj hjM hT
    go_wp2
    go_ret
    exact FIN.out
theorem qm_1 : Qm 1 ((1:Int):Rat):=by refine ⟨?_,?_⟩<;>(unfold Sm;decide)
theorem qm_m1 : Qm 1 ((-1:Int):Rat):=by refine ⟨?_,?_⟩<;>(unfold Sm;decide)
theorem ptw_congr {F G:Rat->Rat->Rat}(h:∀r s,F r s=G r s)(rs ss:List Rat):ptw F rs ss=ptw G rs ss:=by
 unfold ptw
 simp only[h]
theorem raddv_v {w:World}{A A':Option Addr}{c c':Nat}{es fs:List E4}{rs ss:List Rat}{k l:Nat}(hA:Vi w A c es rs k)(hB:Vi w A' c' fs ss l)(hk:0<k)(hl:0<l)(hkl:1+k+l+1<=10000)(h1:rs.length+1<=1000000)(h2:ss.length+1<=1000000) :
  Calls Tryz.prog 17 #[.slice A rs.length c,.slice A' ss.length c'] w (VR w (ptw (fun r s=>r+s) rs ss)):=by
 have HC:=Hd (fun (V:World) (hV:Below w.heap.size w V) (x1 x2 x3 x4:Value) (q:Qc V x1 x2 x3 x4 ((1:Int):Rat))=>(rcomb_v (c:=c) (c':=c') (q.qi qm_1 (by decide)) (hA.to hV) (hB.to hV) (by decide) hk hl hkl h1 h2))
 rw[ptw_congr (F:=fun r s=>((1:Int):Rat)*r+s) (G:=fun r s=>r+s) (fun r s=>by rw[show ((1:Int):Rat)=1 from rfl,Rat.one_mul])]at HC
 clear hA hB hk hl hkl h1 h2
 go_enter Tryz.func17,Tryz.ntmps17
 go_wp2_with fail
 refine (rint_q 1 (by omega) (by omega) w).mono ?_
 rintro e V ⟨x1,x2,x3,x4,rfl,q,bb⟩
 have HD:=Hd (HC.out V bb x1 x2 x3 x4 q)
 have HB:=Hd bb
 clear q bb HC
 go_wp2_with fail
 refine HD.out.mono ?_
 rintro e X ⟨A1,c1,fl,rfl,hv,b2⟩
 have HE:=Hxb HB b2
 clear b2
 go_wp2
 go_ret
 exact ⟨A1,c1,fl,rfl,hv,HE.out⟩
theorem rsubv_v {w:World}{A A':Option Addr}{c c':Nat}{es fs:List E4}{rs ss:List Rat}{k l:Nat}(hA:Vi w A c es rs k)(hB:Vi w A' c' fs ss l)(hk:0<k)(hl:0<l)(hkl:1+l+k+1<=10000)(h1:rs.length+1<=1000000)(h2:ss.length+1<=1000000) :
  Calls Tryz.prog 19 #[.slice A rs.length c,.slice A' ss.length c'] w (VR w (ptw (fun r s=>r-s) rs ss)):=by
 have HC:=Hd (fun (V:World) (hV:Below w.heap.size w V) (x1 x2 x3 x4:Value) (q:Qc V x1 x2 x3 x4 ((-1:Int):Rat))=>rcomb_v (c:=c') (c':=c) (q.qi qm_m1 (by decide)) (hB.to hV) (hA.to hV) (by decide) hl hk hkl h2 h1)
 have he:ptw (fun r s=>r-s) rs ss=ptw (fun r s=>((-1:Int):Rat)*r+s) ss rs:=by
  unfold ptw
  rw[Nat.max_comm]
  refine List.map_congr_left fun i _=>?_
  show rs.getD i 0-ss.getD i 0=((-1:Int):Rat)*ss.getD i 0+rs.getD i 0
  rw[show ((-1:Int):Rat)=-1 from rfl,Rat.neg_mul,Rat.one_mul,Rat.sub_eq_add_neg,Rat.add_comm]
 rw[<-he]at HC
 clear hA hB hk hl hkl h1 h2 he
 go_enter Tryz.func19,Tryz.ntmps19
 go_wp2_with fail
 refine (rint_q (-1) (by omega) (by omega) w).mono ?_
 rintro e V ⟨x1,x2,x3,x4,rfl,q,bb⟩
 have HD:=Hd (HC.out V bb x1 x2 x3 x4 q)
 have HB:=Hd bb
 clear q bb HC
 go_wp2_with fail
 refine HD.out.mono ?_
 rintro e X ⟨A1,c1,fl,rfl,hv,b2⟩
 have HE:=Hxb HB b2
 clear b2
 go_wp2
 go_ret
 exact ⟨A1,c1,fl,rfl,hv,HE.out⟩
theorem rsum_v {w:World}{P:Option Addr}{N C m:Nat}{As:Nat->Option Addr}{cs:Nat->Nat}{es:Nat->List E4}{rs:Nat->List Rat}(h:SumIn w P N As cs es rs m)(hm0:0<m)(hq:∀k i,Qm m ((rs k).getD i 0))(hl:∀k,(rs k).length+1<=1000000)
  (hN:1+(N*(m+1)+1)+m+1<=10000):Calls Tryz.prog 40 #[.slice P N C] w (VR w (sumV rs N)):=by
 have hN1:N<=10000:=by
  have:=Nat.le_mul_of_pos_right N (show 0<m+1 by omega)
  omega
 have HI:=Hd h
 have HQ:=Hd hq
 have HL:=Hd hl
 have HNM:Hid (0<m/\1+(N*(m+1)+1)+m+1<=10000):=⟨hm0,hN⟩
 clear h hm0 hq hl hN
 go_enter Tryz.func40,Tryz.ntmps40
 go_wp2
 go_loopw [3,4] (fun v i wr=>∃(k n c:Nat) (A:Option Addr) (fl:List E4),v=.slice A n c/\i=.int .i64 k/\k<=N/\Hid ((sumV rs k).length=n/\Vc wr A c fl (sumV rs k))/\Below w.heap.size w wr) (fun _ i _=>N-(intOf i).toNat)
 case atStart=>exact ⟨0,0,0,none,[],rfl,rfl,Nat.zero_le _,⟨rfl,Vc.nil _ (by decide)⟩,Below.refl _ _⟩
 case round =>
  obtain ⟨k,n,c,A,fl,rfl,rfl,hk,hT,hb⟩:=hrel
  by_cases hlt:k<N
  .have hki:(0:Int)<=(k:Int):=by omega
   have hki':(k:Int)<(N:Int):=by omega
   have hk3:(k:Int)+1<=9223372036854775807:=by omega
   obtain ⟨b,o,rfl,hc0⟩:=HI.out.cell k hlt
   have hcell:=(hb.cell (p:=⟨b,o+k,none⟩) (World.block_lt_of_cell? w _ hc0)).trans hc0
   have hv:=(HI.out.vec k hlt).to hb
   have hls:=HL.out k
   have hln:=sumV_len (rs:=rs) (M:=999999) (fun k=>by have:=HL.out k;omega) k
   have hkm:k*(m+1)<=N*(m+1):=Nat.mul_le_mul_right _ hk
   have hm1:=HNM.out
   have HC:=Hd (raddv_v (c:=c) (c':=cs k) (hT.out.2.vi (sumV_qm HQ.out k) (by omega)) hv (by omega) hm1.1 (by omega) (by omega) hls)
   rw[hT.out.1,<-sumV_succ]at HC
   have HB:=Hd hb
   have HK:=Hd hlt
   obtain ⟨L,hL⟩:∃L,(rs k).length=L:=⟨_,rfl⟩
   rw[hL]at hcell HC
   clear hb hv hc0 hT hk hls hln hkm hm1 hlt hL
   generalize As k=Ak at hcell HC
   generalize cs k=ck at hcell HC
   go_wp2_with fail
   refine HC.out.mono ?_
   rintro e X ⟨A1,c1,fl1,rfl,hv,b2⟩
   have HE:Hid (Vc X A1 c1 fl1 (sumV rs (k+1))/\Below w.heap.size w X):=⟨hv,HB.out.trans (b2.mono HB.out.size)⟩
   clear b2 hv HC hcell
   obtain ⟨n1,hn1⟩:∃n1,(sumV rs (k+1)).length=n1:=⟨_,rfl⟩
   rw[hn1]
   have HN1:=Hd hn1
   clear hn1
   go_wp2
   go_roundw
   case rel=>exact ⟨k+1,n1,c1,A1,fl1,rfl,by simp,HK.out,⟨HN1.out,HE.out.1⟩,HE.out.2⟩
   case measure=>have:=HK.out;simp[intOf];omega
  .obtain rfl:k=N:=by omega
   have HT:=hT
   have HB:=Hd hb
   clear hT hb hlt
   go_wp2
   go_ret
   exact ⟨A,c,fl,by rw[HT.out.1];rfl,HT.out.2,HB.out⟩
theorem rscale_v {w:World}{t1 t2 t3 t4:Value}{t:Rat}{m:Nat}{A:Option Addr}{c:Nat}{es:List E4}{rs:List Rat}{k:Nat}(hT:Qi w t1 t2 t3 t4 t m)(hA:Vi w A c es rs k)(hm0:0<m)(hk0:0<k)(hN:m+k+1+1<=10000)(h1:rs.length+1<=1000000) :
  Calls Tryz.prog 21 #[.agg #[t1,t2,t3,t4],.slice A rs.length c] w (VR w (scaleQ t rs)):=by
 obtain ⟨W0,hW0⟩:∃W0,W0=w.alloc (.cells #[t1,t2,t3,t4] 26):=⟨_,rfl⟩
 have hbw:Below w.heap.size w W0:=by rw[hW0];exact (Below.refl _ _).alloc (Nat.le_refl _) _
 have tT:Four W0 w.heap.size t1 t2 t3 t4:=by rw[hW0];exact Four.new w _ _ _ _ _
 have HC:=Hd (rcomb_v (c:=c) (c':=0) (hT.to hbw) (hA.to hbw) (Vi.nil (A:=none) (c:=0) W0 (k:=1) (by decide)) hm0 hk0 (by decide) (by omega) h1 (by decide))
 have HB:=Hd hbw
 have HW0:=Hd hW0
 clear hT hA hm0 hk0 hN h1 hbw hW0
 go_enter Tryz.func21,Tryz.ntmps21
 go_wp2_with fail
 rw[<-HW0.out]
 clear HW0
 have k0:=tT.c0
 have k1:=tT.c1
 have k2:=tT.c2
 have k3:=tT.c3
 clear tT
 go_wp2_with fail
 refine HC.out.mono ?_
 rintro e X ⟨A1,c1,fl,rfl,hv,b2⟩
 have HE:=Hxb HB b2
 clear b2
 go_wp2
 go_ret
 exact ⟨A1,c1,fl,rfl,hv,HE.out⟩
end Go.Proofs.YtiifpobhmnplaaaGreat
