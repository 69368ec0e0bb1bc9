/- Parts: 12. -/
import Derived.Test.YtglhdielkkhefaaGreatMl11
import Derived.Test.YtglhdielkkhefaaGreatMl13
import Derived.Test.YtglhdielkkhefaaGreatMl14
import Derived.Test.YtglhdielkkhefaaGreatMl15
set_option linter.unusedVariables false
set_option linter.unusedSimpArgs false
set_option maxRecDepth 100000
set_option maxHeartbeats 40000000

namespace Go.Proofs.YtglhdielkkhefaaGreat
open Go.RowKit Go.Shelf
theorem infoS : (Tryz.prog.info? 38).map (fun i=>(i.zero,i.size,i.bytes))=some (some (.slice none 0 0),1,24):=by kernel_rfl
theorem zero_s (m:Nat):Builtin.zeroCells (.slice none 0 0:Value).cells m=(List.replicate m (.slice none 0 0:Value)).toArray:=by
 show madeCells (.slice none 0 0:Value).cells (m*1)=_
 apply Array.ext';apply List.ext_getElem?;intro j;unfold madeCells;have hs:((.slice none 0 0:Value).cells)=#[.slice none 0 0]:=rfl;rw[hs]
 by_cases h:j<m
 .simp[h,Nat.mod_one]
 .simp[h]
def IsS (v:Value):Prop:=∃A n c,v=.slice A n c
structure RowS (W:World)(g:Nat)(fl:List Value):Prop where
 heap:W.heap[g]?=some (.cells fl.toArray 38 (0,0))
 sl:∀v∈fl,IsS v
section
variable {W V : World} {g : Nat} {fl : List Value}
theorem RowS.lt (h:RowS W g fl):g<W.heap.size:=(Array.getElem?_eq_some_iff.1 h.heap).1
theorem RowS.to (h:RowS W g fl)(hb:Below W.heap.size W V):RowS V g fl:=⟨(hb.block g h.lt).trans h.heap,h.sl⟩
theorem RowS.slice (h:RowS W g fl){p:Addr}(hp:p.block=g){v:Value}(hc:W.cell? p=some v):IsS v:=by
 obtain ⟨b,j,f⟩:=p;obtain rfl:b=g:=hp;unfold World.cell? at hc;simp only[h.heap]at hc
 cases f with
 | none=>simp at hc;exact h.sl _ (List.mem_of_getElem? hc)
 | some f=>simp at hc
theorem RowS.kw (h:RowS W g fl){cs:Array Value} : Kw W (W.setRow g cs):=by
 refine ⟨by simp[World.setRow],fun p n hp=>?_⟩
 have hne:p.block≠g:=fun e=>by
  obtain ⟨A,m,c,e2⟩:=h.slice e hp;cases e2
 rw[World.cell?_of_block (setRow_other W g p.block cs hne)];exact hp
theorem RowS.rq (h:RowS W g fl){cs:Array Value}{B:Nat}{A:Option Addr}{es:List E4}(hr:Rq W B A es)(hf:∀e∈es,e.fq):Rq (W.setRow g cs) B A es:=fun k hk=>by
 obtain ⟨b,o,e,hb,h0,h1,h2,h3⟩:=hr k hk;obtain ⟨⟨n1,A1,j1,m1,e1,e2⟩,_⟩:=hf _ (List.getElem_mem hk)
 have hne:b≠g:=fun e3=>by
  obtain ⟨A,m,c,e4⟩:=h.slice (p:=⟨b,_,none⟩) e3 h0;rw[e1]at e4;cases e4
 have hw:∀p:Addr,p.block=b->(W.setRow g cs).cell? p=W.cell? p:=fun p hp=>World.cell?_of_block (setRow_other W g p.block cs (by rw[hp];exact hne))
 exact ⟨b,o,e,hb,(hw ⟨b,_,none⟩ rfl).trans h0,(hw ⟨b,_,none⟩ rfl).trans h1,(hw ⟨b,_,none⟩ rfl).trans h2,(hw ⟨b,_,none⟩ rfl).trans h3⟩
theorem RowS.vc (h:RowS W g fl){cs:Array Value}{A:Option Addr}{c:Nat}{es:List E4}{rs:List Rat}(hv:Vc W A c es rs):Vc (W.setRow g cs) A c es rs :=
 ⟨by rw[setRow_size];exact h.rq hv.row hv.fq,hv.len,fun i=>h.kw.qc (hv.el i),hv.fq,hv.cap,hv.c63⟩
theorem RowS.app (h:RowS W g fl){n:Nat}{x:Value}(hx:IsS x):RowS (W.setRow g (fl.set n x).toArray) g (fl.set n x) :=
 ⟨setRow_heap W g _ _ _ _ h.heap,fun v hv=>by
  rcases List.mem_or_eq_of_mem_set hv with hv|rfl
  .exact h.sl v hv
  .exact hx⟩
end
def TotS (P:World->Nat->Value->Prop)(W:World)(v:Value)(n B:Nat):Prop :=
 (n=0/\v=.slice none 0 0)∨∃g cap fl,v=.slice (some ⟨g,0,none⟩) n cap/\B<=g/\RowS W g fl/\fl.length=cap/\n<=cap/\cap<=9223372036854775807/\∀i,i<n->P W i (fl.getD i (.slice none 0 0))
theorem TotS.sl {P:World->Nat->Value->Prop}{W:World}{v:Value}{n B:Nat}(h:TotS P W v n B):∃A c,v=.slice A n c:=by
 rcases h with ⟨rfl,rfl⟩|⟨g,cap,fl,rfl,_⟩
 .exact ⟨_,_,rfl⟩
 .exact ⟨_,_,rfl⟩
theorem tot_rows {P:World->Nat->Value->Prop}{W:World}{g B n:Nat}{fl:List Value}(hg:B<=g)(h:RowS W g fl)(hn:n<=fl.length)(hc:fl.length<=9223372036854775807)
  (hq:∀i,i<n->P W i (fl.getD i (.slice none 0 0))):TotS P W (.slice (some ⟨g,0,none⟩) n fl.length) n B:=.inr ⟨g,fl.length,fl,rfl,hg,h,rfl,hn,hc,hq⟩
theorem grown_rows {W:World}{n C:Nat}{es:List Value}{e:Value}(he:IsS e)(hes:∀x∈es,IsS x)(hl:es.length=n)(hC:n+1<=C) :
  (es++e::List.replicate (C-(n+1)) (.slice none 0 0)).toArray=((es++[e]).toArray++Builtin.zeroCells (.slice none 0 0:Value).cells (C-(n+1))) /\
  RowS (W.alloc (.cells (es++e::List.replicate (C-(n+1)) (.slice none 0 0)).toArray 38)) W.heap.size (es++e::List.replicate (C-(n+1)) (.slice none 0 0))/\(es++e::List.replicate (C-(n+1)) (.slice none 0 0)).length=C:=by
 refine ⟨?_,⟨World.alloc_heap_new W _,fun x hx=>?_⟩,by simp;omega⟩
 .rw[zero_s];apply Array.ext';simp
 .rcases List.mem_append.1 hx with hx|hx
  .exact hes x hx
  .rcases List.mem_cons.1 hx with rfl|hx
   .exact he
   .rw[List.eq_of_mem_replicate hx];exact ⟨_,_,_,rfl⟩
structure KeptS (P:World->Nat->Value->Prop):Prop where
 to:∀{W V:World} {i:Nat} {v:Value},Below W.heap.size W V->P W i v->P V i v
 set:∀{W:World} {g:Nat} {fl:List Value} {cs:Array Value} {i:Nat} {v:Value},RowS W g fl->P W i v->P (W.setRow g cs) i v
theorem TotS.mv {P:World->Nat->Value->Prop}(hP:KeptS P){W V:World}{v:Value}{n B:Nat}(h:TotS P W v n B)(hb:Below W.heap.size W V):TotS P V v n B:=by
 rcases h with h|⟨g,cap,fl,h1,h2,h3,h4,h5,h6,h7⟩
 .exact .inl h
 .exact .inr ⟨g,cap,fl,h1,h2,h3.to hb,h4,h5,h6,fun i hi=>hP.to hb (h7 i hi)⟩
theorem sapp {P:World->Nat->Value->Prop}(hP:KeptS P){W:World}{v:Value}{n:Nat}{B:Nat}(h:TotS P W v n B)(hB:B<=W.heap.size)(hl:n+1<=1000000){x:Value}(hx:IsS x)(hq:P W n x){a:Addr}{c:Nat}
  (h0:W.cell? (a.add 0)=some x) (ty:TypeId) :
  ∃v' W',(Builtin.append_ #[22,22] ty #[v,.slice (some a) 1 c]).run Tryz.prog W=.ok v' W'/\TotS P W' v' (n+1) B/\Below B W W':=by
 obtain ⟨i0,hi,hz0,hz1,hz2⟩:=info_parts infoS
 have hnews:∀j u,[x][j]?=some u->W.cell? (a.add j)=some u:=fun j u hj=>by
  match j,hj with
  | 0,hj=>simp at hj;subst hj;exact h0
 have here:∀(es:List Value) (k:Nat),es.length=n->(es++x::List.replicate k (.slice none 0 0)).getD n (.slice none 0 0)=x:=fun es k hes=>by
  simp[List.getD,List.getElem?_append,hes]
 rcases h with ⟨rfl,rfl⟩|⟨g,cap,fl,rfl,hg,hr,rfl,hn,hc,hqs⟩
 .have hrun:=run_append_nil (P:=Tryz.prog) (w:=W) 22 ty 38 i0 _ Tryz.underlying22 hi hz0 a 1 c [x] (by rw[hz1];rfl) hnews (by decide) (by decide) (by rw[hz2];decide);have hge:=grownCap_ge W 1 0 38;have hle:=grownCap_le_maxLen W 1 0 38 (by unfold maxLen;omega);unfold maxLen at hle;obtain ⟨C,hC⟩:∃C,grownCap W 1 0 38=C:=⟨_,rfl⟩
  rw[hC]at hrun hge hle;obtain ⟨g1,g2,g3⟩:=grown_rows (W:=W.drew) (n:=0) (C:=C) (es:=[]) hx (fun x hx=>by cases hx) rfl hge
  have hrun':(Builtin.append_ #[22,22] ty #[.slice none 0 0,.slice (some a) 1 c]).run Tryz.prog W=.ok (.slice (some ⟨W.heap.size,0,none⟩) 1 C) (W.drew.alloc (.cells ([]++x::List.replicate (C-(0+1)) (.slice none 0 0)).toArray 38)):=by
   rw[g1];exact hrun
  have hbb:Below W.heap.size W (W.drew.alloc (.cells ([]++x::List.replicate (C-(0+1)) (.slice none 0 0)).toArray 38)):=((Below.refl _ W).drew).alloc (Nat.le_refl _) _;refine ⟨_,_,hrun',?_,hbb.mono hB⟩
  have ht:=tot_rows (P:=P) (n:=1) (B:=B) (g:=W.heap.size) hB g2 (by rw[g3];exact hge) (by rw[g3];omega) (fun i hi=>by
   obtain rfl:i=0:=by omega
   rw[here [] _ rfl]
   exact hP.to hbb hq)
  rw[g3]at ht;exact ht
 .by_cases hroom:n<fl.length
  .have hrun:=run_append_room (P:=Tryz.prog) W 22 ty 38 i0 Tryz.underlying22 hi g n fl.length _ hr.heap a 1 c [x] (by rw[hz1];rfl) hnews
    (fun u hu=>by rw[List.mem_singleton.1 hu];obtain ⟨A,m,d,rfl⟩:=hx;rfl) (by omega) (by rw[hz1];simp;omega)
   rw[hz1]at hrun
   have e1:fl.set n x=fl.take n++x::fl.drop (n+1):=by
    rw[List.set_eq_take_append_cons_drop,if_pos hroom]
   have hrun':(Builtin.append_ #[22,22] ty #[.slice (some ⟨g,0,none⟩) n fl.length,.slice (some a) 1 c]).run Tryz.prog W=.ok (.slice (some ⟨g,0,none⟩) (n+1) fl.length) (W.setRow g (fl.set n x).toArray):=by
    rw[hrun,e1];simp
   refine ⟨_,_,hrun',?_,below_setRow (Below.refl _ _) hg _⟩
   have ht:=tot_rows (P:=P) (n:=n+1) (B:=B) hg (hr.app (n:=n) hx) (by rw[List.length_set];omega) (by rw[List.length_set];exact hc) (fun i hi=>by
    by_cases hin:i=n
    .subst hin;rw[show (fl.set i x).getD i (.slice none 0 0)=x from by simp[List.getD,hroom]];exact hP.set hr hq
    .rw[show (fl.set n x).getD i (.slice none 0 0)=fl.getD i (.slice none 0 0) from by simp[List.getD,List.getElem?_set,Ne.symm hin]]
     exact hP.set hr (hqs i (by omega)))
   rwa [List.length_set]at ht
  .obtain rfl:n=fl.length:=by omega
   have holds:∀j u,fl[j]?=some u->W.cell? ((⟨g,0,none⟩:Addr).add j)=some u:=fun j u hj=>by
    unfold Addr.add
    by_cases hj0:j=0
    .subst hj0;simpa [World.cell?,hr.heap]using hj
    .simpa [hj0,World.cell?,hr.heap]using hj
   have hrun:=run_append_grow (P:=Tryz.prog) (w:=W) 22 ty 38 i0 _ Tryz.underlying22 hi hz0 ⟨g,0,none⟩ fl.length fl.length fl (by rw[hz1];simp) holds a 1 c [x] (by rw[hz1];rfl) hnews (by omega) (by omega)
    (by rw[hz2];exact growslice_fits (by omega) (by omega))
   have hge:=grownCap_ge W (fl.length+1) fl.length 38;have hle:=grownCap_le_maxLen W (fl.length+1) fl.length 38 (by unfold maxLen;omega);unfold maxLen at hle;obtain ⟨C,hC⟩:∃C,grownCap W (fl.length+1) fl.length 38=C:=⟨_,rfl⟩
   rw[hC]at hrun hge hle;obtain ⟨g1,g2,g3⟩:=grown_rows (W:=W.drew) (n:=fl.length) (C:=C) (es:=fl) hx hr.sl rfl hge
   have hrun':(Builtin.append_ #[22,22] ty #[.slice (some ⟨g,0,none⟩) fl.length fl.length,.slice (some a) 1 c]).run Tryz.prog W=.ok (.slice (some ⟨W.heap.size,0,none⟩) (fl.length+1) C) (W.drew.alloc (.cells (fl++x::List.replicate (C-(fl.length+1)) (.slice none 0 0)).toArray 38)):=by
    rw[g1,show (fl++[x]).toArray=fl.toArray++[x].toArray from by simp];exact hrun
   have hbb:Below W.heap.size W (W.drew.alloc (.cells (fl++x::List.replicate (C-(fl.length+1)) (.slice none 0 0)).toArray 38)):=((Below.refl _ W).drew).alloc (Nat.le_refl _) _;refine ⟨_,_,hrun',?_,hbb.mono hB⟩
   have ht:=tot_rows (P:=P) (n:=fl.length+1) (B:=B) (g:=W.heap.size) hB g2 (by rw[g3];exact hge) (by rw[g3];omega) (fun i hi=>by
    by_cases hin:i=fl.length
    .subst hin;rw[here fl _ rfl];exact hP.to hbb hq
    .rw[show (fl++x::List.replicate (C-(fl.length+1)) (.slice none 0 0)).getD i (.slice none 0 0)=fl.getD i (.slice none 0 0) from by simp[List.getD,List.getElem?_append,show i<fl.length by omega]]
     exact hP.to hbb (hqs i (by omega)))
   rw[g3]at ht;exact ht
def zrow (c:Nat):Array Value:=(List.replicate c (.slice none 0 0:Value)).toArray
theorem make_s (W:World)(n c:Nat)(hn:n<=c)(hc:c<=4398046511104) :
  (Instr.makeSlice 22 (.int .i64 (n:Int)) (.int .i64 (c:Int))).run Tryz.prog W=.ok (.slice (some ⟨W.heap.size,0,none⟩) n c) (W.alloc (.cells (zrow c) 38)):=by
 obtain ⟨i0,hi,hz0,hz1,hz2⟩:=info_parts infoS;have h:=run_make W 22 38 i0 _ Tryz.underlying22 hi hz0 .i64 .i64 n c (by omega) (by omega) (by rw[hz2];omega) (by omega);rw[hz1,Int.toNat_natCast,Int.toNat_natCast]at h;rw[h];unfold zrow;rw[<-zero_s];rfl
theorem wpList_makes (w:World){ops:Array Oper}{rest:List Oper}{o:Oper}{a:Act}{Q:Exit->Act->World->Prop}
  (hg:o.guard=none) (l c:Operand) (hop:o.op=Op.makeSlice 22 l c) (N C:Nat) {L D:Int} (hl:a.eval l=.int .i64 L) (hc:a.eval c=.int .i64 D) (hL:L=(N:Int)) (hC:D=(C:Int)) (h1:N<=C) (h2:C<=4398046511104)
  (hK:wpList Tryz.prog ops Q rest (a.put o.dst (.slice (some ⟨w.heap.size,0,none⟩) N C)) (w.alloc (.cells (zrow C) 38))) :
  wpList Tryz.prog ops Q (o::rest) a w:=by
 refine wpList_plain hg fun K hK'=>?_
 have hrun:=make_s w N C h1 h2;subst hL;subst hC;unfold Oper.wp;simp[execOp,hop,hl,hc,hrun,Result.andThen];exact hK' _ _ hK
theorem TotS.new {P:World->Nat->Value->Prop}{W:World}{N B:Nat}(hB:B<=W.heap.size)(hN:N<=9223372036854775807):TotS P (W.alloc (.cells (zrow N) 38)) (.slice (some ⟨W.heap.size,0,none⟩) 0 N) 0 B :=
 .inr ⟨W.heap.size,N,List.replicate N (.slice none 0 0),rfl,hB,⟨World.alloc_heap_new W _,fun v hv=>by rw[List.eq_of_mem_replicate hv];exact ⟨_,_,_,rfl⟩⟩,by simp,Nat.zero_le _,hN,fun i hi=>absurd hi (Nat.not_lt_zero _)⟩
theorem TotV.new {W:World}{N B:Nat}{f:Nat->Rat}(hB:B<=W.heap.size)(hN:N<=9223372036854775807):TotV (W.alloc (.cells (flat (List.replicate N E4.z)).toArray 32)) (.slice (some ⟨W.heap.size,0,none⟩) 0 N) 0 f B :=
 .inr ⟨W.heap.size,N,List.replicate N E4.z,rfl,hB,Row.new W N,by simp,Nat.zero_le _,hN,fun i hi=>absurd hi (Nat.not_lt_zero _),fun i _=>by by_cases h:i<N<;>simp[List.getD,List.getElem?_replicate,h]⟩
def tab (N:Nat)(g:Nat->Rat):List Rat:=(List.range N).map g
theorem tab_length (N:Nat)(g:Nat->Rat):(tab N g).length=N:=by simp[tab]
theorem tab_getD {N i:Nat}(g:Nat->Rat)(h:i<N):(tab N g).getD i 0=g i:=by simp[tab,List.getD,h]
theorem TotV.vtab {w W:World}{A:Option Addr}{N c:Nat}{g:Nat->Rat}(h:TotV W (.slice A N c) N g w.heap.size)(hl:N<=4398046511104)(hb:Below w.heap.size w W):VR w (tab N g) (.returned (.slice A N c)) W:=by
 obtain ⟨l,h2⟩:∃l,tab N g=l:=⟨_,rfl⟩
 have e:l.length=N:=by rw[<-h2,tab_length]
 rw[h2];subst e;refine (h.congr (f':=fun i=>l.getD i 0) (fun i hi=>?_)).vr hl hb;rw[<-h2,tab_length]at hi;rw[<-h2];exact (tab_getD g hi).symm
def colsN (rs:Nat->List Rat):Nat->Nat
 | 0=>0
 | k+1=>max (colsN rs k) (rs k).length
theorem colsN_ge (rs:Nat->List Rat):∀{N k:Nat},k<N->(rs k).length<=colsN rs N
 | 0,_,h=>absurd h (Nat.not_lt_zero _)
 | N+1,k,h=>by
  by_cases hk:k=N
  .subst hk;exact Nat.le_max_right _ _
  .exact Nat.le_trans (colsN_ge rs (by omega)) (Nat.le_max_left _ _)
theorem colsN_le {rs:Nat->List Rat}{M:Nat} : ∀{N:Nat},(∀k,k<N->(rs k).length<=M)->colsN rs N<=M
 | 0,_=>Nat.zero_le _
 | N+1,h=>Nat.max_le.2 ⟨colsN_le (fun k hk=>h k (by omega)),h N (by omega)⟩
structure Mc (W:World)(P:Option Addr)(N C:Nat)(rs:Nat->List Rat):Prop where
 row:∀k,k<N->∃b o A c es,P=some ⟨b,o,none⟩/\b<W.heap.size/\W.cell? ⟨b,o+k,none⟩=some (.slice A (rs k).length c)/\Vc W A c es (rs k)
 n63:N<=9223372036854775807
structure Mi (W:World)(P:Option Addr)(N C:Nat)(rs:Nat->List Rat)(m:Nat):Prop where
 row:∀k,k<N->∃b o A c es,P=some ⟨b,o,none⟩/\b<W.heap.size/\W.cell? ⟨b,o+k,none⟩=some (.slice A (rs k).length c)/\Vi W A c es (rs k) m
 n63:N<=9223372036854775807
section
variable {W V : World} {P : Option Addr} {N C m : Nat} {rs : Nat -> List Rat}
theorem Mc.to (h:Mc W P N C rs)(hb:Below W.heap.size W V):Mc V P N C rs :=
 ⟨fun k hk=>by
  obtain ⟨b,o,A,c,es,e,h1,h2,h3⟩:=h.row k hk
  exact ⟨b,o,A,c,es,e,Nat.lt_of_lt_of_le h1 hb.size,(hb.cell (p:=⟨b,_,none⟩) h1).trans h2,h3.to hb⟩,h.n63⟩
theorem Mi.to (h:Mi W P N C rs m)(hb:Below W.heap.size W V):Mi V P N C rs m :=
 ⟨fun k hk=>by
  obtain ⟨b,o,A,c,es,e,h1,h2,h3⟩:=h.row k hk
  exact ⟨b,o,A,c,es,e,Nat.lt_of_lt_of_le h1 hb.size,(hb.cell (p:=⟨b,_,none⟩) h1).trans h2,h3.to hb⟩,h.n63⟩
theorem Mc.mi (h:Mc W P N C rs)(hm:m<=10000)(hq:∀k,k<N->∀i,Qm m ((rs k).getD i 0)):Mi W P N C rs m :=
 ⟨fun k hk=>by
  obtain ⟨b,o,A,c,es,e,h1,h2,h3⟩:=h.row k hk
  exact ⟨b,o,A,c,es,e,h1,h2,h3.vi (hq k hk) hm⟩,h.n63⟩
end
def MR (w:World)(N:Nat)(rs:Nat->List Rat)(e:Ending)(w':World):Prop:=∃P C,e=.returned (.slice P N C)/\Mc w' P N C rs/\Below w.heap.size w w'
def Vs (rs:Nat->List Rat)(W:World)(i:Nat)(v:Value):Prop:=∃A c es,v=.slice A (rs i).length c/\Vc W A c es (rs i)
theorem Vs.kept (rs:Nat->List Rat):KeptS (Vs rs) where
 to:=fun hb h=>by
  obtain ⟨A,c,es,e,h⟩:=h;exact ⟨A,c,es,e,h.to hb⟩
 set:=fun hr h=>by
  obtain ⟨A,c,es,e,h⟩:=h;exact ⟨A,c,es,e,hr.vc h⟩
theorem TotS.mc {rs:Nat->List Rat}{W:World}{P:Option Addr}{n c B:Nat}(h:TotS (Vs rs) W (.slice P n c) n B):Mc W P n c rs:=by
 rcases h with ⟨rfl,h⟩|⟨g,cap,fl,h1,h2,h3,h4,h5,h6,h7⟩
 .cases h;exact ⟨fun k hk=>absurd hk (Nat.not_lt_zero _),by decide⟩
 .cases h1;refine ⟨fun k hk=>?_,Nat.le_trans h5 h6⟩;obtain ⟨A,d,es,e,h8⟩:=h7 k hk;refine ⟨g,0,A,d,es,rfl,h3.lt,?_,h8⟩;rw[<-e];have hk2:k<fl.length:=by omega
  simp[World.cell?,h3.heap,List.getD,hk2]
end Go.Proofs.YtglhdielkkhefaaGreat

namespace Go.Proofs.YtglhdielkkhefaaGreat
open Go.RowKit Go.Shelf
def Rfit (W:World)(g N k:Nat)(f:Nat->Rat):Prop:=∃fl,Row W g fl/\fl.length=N/\(∀i,i<k->Qc W (fl.getD i E4.z).a (fl.getD i E4.z).b (fl.getD i E4.z).c (fl.getD i E4.z).d (f i))/\∀i,k<=i->fl.getD i E4.z=E4.z
theorem fit_set {fl:List E4}{k:Nat}{e:E4}(h:∀i,k<=i->fl.getD i E4.z=E4.z):∀i,k+1<=i->(fl.set k e).getD i E4.z=E4.z:=fun i hi=>by
 rw[show (fl.set k e).getD i E4.z=fl.getD i E4.z from by simp[List.getD,List.getElem?_set,show k≠i by omega]];exact h i (by omega)
theorem resize_row {w:World}{A:Option Addr}{c:Nat}{es:List E4}{rs:List Rat}{k:Nat}(hA:Vi w A c es rs k)(hk:k<=10000)(h1:rs.length<=4398046511104){n:Int}(hn:1<=n)(hn2:n<=9223372036854775807){N:Nat}(hN:min n 65536=(N:Int)) :
  Calls Tryz.prog 62 #[.slice A rs.length c,.int .i64 n] w fun e w'=>∃g fl,e=.returned (.slice (some ⟨g,0,none⟩) N N)/\w.heap.size<=g/\Row w' g fl/\fl.length=N/\(∀i,i<N->Qc w' (fl.getD i E4.z).a (fl.getD i E4.z).b (fl.getD i E4.z).c (fl.getD i E4.z).d (rs.getD i 0))/\Below w.heap.size w w':=by
 have H:=Hd hA;have HK:=Hd hk;have hN2:N<=65536:=by omega
 have hn1:¬n<1:=by omega
 have HNN:=Hd hN2;have HL:=Hd h1;have hlen:=hA.len;obtain ⟨f,hf⟩:∃f:Nat->Rat,Hid (f=fun i=>rs.getD i 0):=⟨_,rfl⟩
 obtain ⟨M,hM⟩:∃M:Nat,min rs.length N=M:=⟨_,rfl⟩
 obtain ⟨L,hL⟩:∃L,rs.length=L:=⟨_,rfl⟩
 have HLen:=Hd (hlen.trans hL);have HM:=Hd hM;rw[hL]at h1 hM ⊢;have hM':min (L:Int) (N:Int)=(M:Int):=by omega
 clear hA hlen hM;have HMI:=Hd hM'
 go_enter Tryz.func62,Tryz.ntmps62
 go_wp2_with (at_make;refine wpList_makeq _ rfl _ _ rfl N N rfl rfl rfl rfl (Nat.le_refl _) (by omega) ?_)
 have hacc:Rfit (w.alloc (.cells (flat (List.replicate N E4.z)).toArray 32)) w.heap.size N 0 f:=⟨_,Row.new w N,by simp,fun i hi=>by omega,fun i hi=>by by_cases h:i<N<;>simp[List.getD,List.getElem?_replicate,h]⟩
 have hbw:Below w.heap.size w (w.alloc (.cells (flat (List.replicate N E4.z)).toArray 32)):=bRR;generalize w.alloc (.cells (flat (List.replicate N E4.z)).toArray 32)=w1 at hacc hbw ⊢
 go_loopw [17] (fun i wr=>∃k:Nat,i=.int .i64 k/\k<=M/\Rfit wr w.heap.size N k f/\Below w.heap.size w wr) (fun i _=>M-(intOf i).toNat)
 case atStart=>exact ⟨0,rfl,Nat.zero_le _,hacc,hbw⟩
 case round =>
  obtain ⟨k,rfl,hk,hra,hb⟩:=hrel;clear hacc hbw;have hM63:(M:Int)<=65536:=by omega
  by_cases hlt:k<M
  .have hk1:(0:Int)<=(k:Int):=by omega
   have hk2:(k:Int)<(M:Int):=by omega
   have hk4:(k:Int)<(L:Int):=by omega
   have hk5:(k:Int)<(N:Int):=by omega
   have hkn:k<es.length:=by have:=HLen.out;omega
   obtain ⟨b,o,rfl,hB,g0,g1,g2,g3⟩:=H.out.row k hkn;have hq:=H.out.el k;have hfk:Hid (f k=rs.getD k 0):=by show _=_;rw[hf.out]
   rw[getD_at' hkn]at hq;have f0:=(hb.cell (p:=⟨b,o+k*4,none⟩) hB).trans g0;have f1:=(hb.cell (p:=⟨b,o+k*4+1,none⟩) hB).trans g1;have f2:=(hb.cell (p:=⟨b,o+k*4+2,none⟩) hB).trans g2;have f3:=(hb.cell (p:=⟨b,o+k*4+3,none⟩) hB).trans g3;have HQ:=Hd (hq.to hb);clear g0 g1 g2 g3 hq;generalize es[k]=E at f0 f1 f2 f3 HQ;have HR:=Hd hra;have HB:=Hd hb;have HLT:Hid (k<M/\k<N):=⟨hlt,by omega⟩
   clear hra hb hkn hlt hk
   go_wp2_with fail
   refine (canonical_q HQ.out HK.out).mono ?_;rintro e V ⟨x1,x2,x3,x4,rfl,q,bb⟩;obtain ⟨fl,r1,r2,r3,r4⟩:=HR.out;have r1':=r1.to bb;have hq3:∀i,i<k->Qc V (fl.getD i E4.z).a (fl.getD i E4.z).b (fl.getD i E4.z).c (fl.getD i E4.z).d (f i):=fun i hi=>(r3 i hi).to bb
   have hs:=Racc.set (e:=⟨x1,x2,x3,x4⟩) r1' r2 hq3 HLT.out.2 q.fq (by rw[hfk.out];exact q)
   have HE:Hid (Rfit (V.setRow w.heap.size (flat (fl.set k ⟨x1,x2,x3,x4⟩)).toArray) w.heap.size N (k+1) f/\Below w.heap.size w (V.setRow w.heap.size (flat (fl.set k ⟨x1,x2,x3,x4⟩)).toArray)):=by
    have kw:Kw V (V.setRow w.heap.size (flat (fl.set k ⟨x1,x2,x3,x4⟩)).toArray):=r1'.kw;refine ⟨⟨fl.set k ⟨x1,x2,x3,x4⟩,r1'.app q.fq,by simpa using r2,fun i hi=>?_,fit_set r4⟩,below_setRow (HB.out.trans (bb.mono HB.out.size)) (Nat.le_refl _) _⟩
    by_cases hik:i=k
    .subst hik;rw[show (fl.set i (⟨x1,x2,x3,x4⟩:E4)).getD i E4.z=⟨x1,x2,x3,x4⟩ from by have:=HLT.out.2;simp[List.getD,show i<fl.length by omega]];rw[hfk.out];exact kw.qc q
    .rw[show (fl.set k (⟨x1,x2,x3,x4⟩:E4)).getD i E4.z=fl.getD i E4.z from by simp[List.getD,List.getElem?_set,Ne.symm hik]];exact kw.qc (hq3 i (by omega))
   have R1:=Hd r1';have R2:Hid (k<fl.length):=by show _<_;have:=HLT.out.2;omega
   have QF:=Hd (show (⟨x1,x2,x3,x4⟩:E4).fq from q.fq);clear hs r1 r1' r2 r3 r4 hq3 bb q
   go_wp2_with (refine wpList_storeq rfl (.tmp 27) (.tmp 26) rfl (by rfl) (by rfl) R1.out R2.out QF.out ?_;clear R1)
   go_roundw
   case rel=>exact ⟨k+1,by simp,HLT.out.1,HE.out.1,HE.out.2⟩
   case measure=>have:=HLT.out.1;simp[intOf];omega
  .obtain rfl:k=M:=by omega
   have HR:=Hd hra;have HB:=Hd hb;clear hra hb hlt;go_wp2
   go_ret
   obtain ⟨fl,r1,r2,r3,r4⟩:=HR.out;refine ⟨w.heap.size,fl,rfl,Nat.le_refl _,r1,r2,fun i hi=>?_,HB.out⟩
   by_cases hik:i<k
   .have h:=r3 i hik;rw[hf.out]at h;exact h
   .have hm:=HM.out;rw[r4 i (by omega),getD_ge (l:=rs) (by omega)];exact ⟨Zc.zero _,Zc.zero _⟩
theorem resize_nil {w:World}{A:Option Addr}{c l:Nat}{n:Int}(hn:n<1) :
  Calls Tryz.prog 62 #[.slice A l c,.int .i64 n] w fun e w'=>e=.returned (.slice none 0 0)/\Below w.heap.size w w':=by
 go_enter Tryz.func62,Tryz.ntmps62
 go_wp2
 go_ret
 exact ⟨rfl,Below.refl _ _⟩
def fitQ (rs:List Rat)(n:Int):List Rat:=(List.range (min n.toNat 65536)).map fun i=>rs.getD i 0
theorem fitQ_length (rs:List Rat)(n:Int):(fitQ rs n).length=min n.toNat 65536:=by simp[fitQ]
theorem fitQ_in {rs:List Rat}{n:Int}{i:Nat}(h:i<min n.toNat 65536):(fitQ rs n).getD i 0=rs.getD i 0:=by
 rw[getD_lt (by rw[fitQ_length];exact h)];simp[fitQ]
theorem vresize_v {w:World}{A:Option Addr}{c:Nat}{es:List E4}{rs:List Rat}{k:Nat}(hA:Vi w A c es rs k)(hk:k<=10000)(h1:rs.length<=4398046511104){n:Int}(hn2:n<=9223372036854775807) :
  Calls Tryz.prog 62 #[.slice A rs.length c,.int .i64 n] w (VR w (fitQ rs n)):=by
 by_cases hn:n<1
 .refine (resize_nil hn).mono ?_;rintro e w' ⟨rfl,hb⟩;have h0:fitQ rs n=[]:=List.eq_nil_of_length_eq_zero (by rw[fitQ_length];omega);rw[h0];exact ⟨none,0,[],rfl,Vc.nil _ (by decide),hb⟩
 .refine (resize_row (N:=min n.toNat 65536) hA hk h1 (by omega) hn2 (by omega)).mono ?_;rintro e w' ⟨g,fl,rfl,_,hr,hl,hq,hb⟩;refine ⟨some ⟨g,0,none⟩,min n.toNat 65536,fl,by rw[fitQ_length],hr.vc hl (fitQ_length ..) (by omega) fun i hi=>?_,hb⟩;rw[fitQ_in hi];exact hq i hi
def unitQ (n k:Int):List Rat:=(List.range (min n.toNat 65536)).map fun i:Nat=>if (i:Int)=k then (1:Rat) else 0
theorem rint_q (n:Int)(n1:-9223372036854775808<=n)(n2:n<=9223372036854775807)(w:World) :
  Calls Tryz.prog 66 #[.int .i64 n] w (QR w (n:Rat)):=by
 have HN:=Hd fun W=>rfrom_z n n1 n2 W
 clear n1 n2;obtain ⟨W0,hW0⟩:∃W0,W0=w.alloc (.cells #[.bool false,.slice none 0 0,.bool false,.slice none 0 0] 32):=⟨_,rfl⟩
 have hbw:Below w.heap.size w W0:=by rw[hW0];exact bRR
 have tR:Four W0 (w.heap.size) (.bool false) (.slice none 0 0) (.bool false) (.slice none 0 0):=by
  have h:=Four.new w (.bool false) (.slice none 0 0) (.bool false) (.slice none 0 0) 32;rw[hW0];exact h
 have HW0:=Hd hW0;have HB:=Hd hbw;clear hW0 hbw
 go_enter Tryz.func66,Tryz.ntmps66
 go_wp2_with fail
 rw[<-HW0.out];clear HW0
 go_wp2_with fail
 refine (HN.out _).mono ?_;rintro e V1 ⟨x1,y1,rfl,z1,bb⟩;replace tR:=tR.to bb;replace HB:=Hxb HB bb;clear bb;have rq:Qc _ x1 y1 (.bool false) (.slice none 0 0) (n:Rat):=⟨z1,zc_nil _⟩
 have RZ:=Hd rq;obtain ⟨V99,eV,u,kp⟩:=pack4 tR Fq.nil x1 y1 (.bool false) (.slice none 0 0);obtain ⟨n1,A1,j1,m1,rfl,rfl⟩:=rq.fq.1;obtain ⟨v0,v1,v2,v3,v4,v5,v6,v7,_⟩:=tR;have EV:=Hd eV;have KP:=Hd kp;have U:=Hd u;clear eV kp u rq;go_wp2
 rw[EV.out];refine bodyPost_ret (v:=.agg #[.bool n1,.slice A1 j1 m1,.bool false,.slice none 0 0]) (by simp[results,Tryz.f66,go_sem,U.out.c0,U.out.c1,U.out.c2,U.out.c3]) rfl ?_;exact ⟨_,_,_,_,rfl,RZ.out.k4 KP.out,KP.out.bel _ _ HB.out (by omega)⟩
theorem Zc.same {w:World}{x y x' y':Value}{a b:Int}(ha:Zc w x y a)(hb:Zc w x' y' b){v:Bool}(hv:decide (a=b)=v):Calls Tryz.prog 52 #[.agg #[x,y],.agg #[x',y']] w fun e w'=>e=.returned (.bool v)/\Below w.heap.size w w':=by
 subst hv;exact same_c ha hb
theorem den_cell {r s:Rat}(h:r≠s)(hn:r.num=s.num):(if r.den=1 then 0 else (r.den:Int))≠(if s.den=1 then 0 else (s.den:Int)):=by
 intro h2;apply h;refine Rat.ext hn ?_;have h3:=r.den_pos;have h4:=s.den_pos
 split at h2<;>split at h2<;>omega
theorem is_t {w:World}{a1 a2 a3 a4 b1 b2 b3 b4:Value}{r s:Rat}(hA:Qc w a1 a2 a3 a4 r)(hB:Qc w b1 b2 b3 b4 s)(h:r=s) :
  Calls Tryz.prog 15 #[.agg #[a1,a2,a3,a4],.agg #[b1,b2,b3,b4]] w (fun e w'=>e=.returned (.bool true)/\Below w.heap.size w w'):=by
 have e1:Hid (decide (r.num=s.num)=true):=decide_eq_true (by rw[h]);have e2:Hid (decide ((if r.den=1 then 0 else (r.den:Int))=(if s.den=1 then 0 else (s.den:Int)))=true):=decide_eq_true (by rw[h]);clear h;obtain ⟨W0,hW0⟩:∃W0,W0=(w.alloc (.cells #[a1,a2,a3,a4] 32)).alloc (.cells #[b1,b2,b3,b4] 32):=⟨_,rfl⟩
 have hbw:Below w.heap.size w W0:=by rw[hW0];exact (bRR.alloc (by simp) _)
 have tA:Four W0 (w.heap.size) a1 a2 a3 a4:=by
  have h:=Four.new w a1 a2 a3 a4 32;rw[hW0];exact (h.alloc _)
 have tB:Four W0 (w.heap.size+1) b1 b2 b3 b4:=by
  have h:=Four.new (w.alloc (.cells #[a1,a2,a3,a4] 32)) b1 b2 b3 b4 32;rw[szA]at h;rw[hW0];exact h
 replace hA:=hA.to hbw;replace hB:=hB.to hbw;have HW0:=Hd hW0;have HB:=Hd hbw;clear hW0 hbw
 go_enter Tryz.func15,Tryz.ntmps15
 go_wp2_with fail
 rw[<-HW0.out];clear HW0;have kktA0:=tA.c0;have kktA1:=tA.c1;have kktA2:=tA.c2;have kktA3:=tA.c3;have kktB0:=tB.c0;have kktB1:=tB.c1;have kktB2:=tB.c2;have kktB3:=tB.c3
 go_wp2_with fail
 refine (hA.1.same hB.1 e1.out).mono ?_;rintro e V1 ⟨rfl,bb⟩;clear kktA0 kktA1 kktA2 kktA3 kktB0 kktB1 kktB2 kktB3;replace tA:=tA.to bb;replace tB:=tB.to bb;replace hA:=hA.to bb;replace hB:=hB.to bb;replace HB:=Hxb HB bb;clear bb;have kktA0:=tA.c0;have kktA1:=tA.c1;have kktA2:=tA.c2;have kktA3:=tA.c3;have kktB0:=tB.c0;have kktB1:=tB.c1;have kktB2:=tB.c2;have kktB3:=tB.c3
 go_wp2_with fail
 refine (hA.2.same hB.2 e2.out).mono ?_;rintro e V2 ⟨rfl,bb⟩;clear kktA0 kktA1 kktA2 kktA3 kktB0 kktB1 kktB2 kktB3;replace tA:=tA.to bb;replace tB:=tB.to bb;replace HB:=Hxb HB bb;clear bb;clear tA tB;go_wp2
 go_ret
 exact ⟨rfl,HB.out⟩
theorem is_n {w:World}{a1 a2 a3 a4 b1 b2 b3 b4:Value}{r s:Rat}(hA:Qc w a1 a2 a3 a4 r)(hB:Qc w b1 b2 b3 b4 s)(h:r.num≠s.num) :
  Calls Tryz.prog 15 #[.agg #[a1,a2,a3,a4],.agg #[b1,b2,b3,b4]] w (fun e w'=>e=.returned (.bool false)/\Below w.heap.size w w'):=by
 have e1:Hid (decide (r.num=s.num)=false):=decide_eq_false h;clear h;obtain ⟨W0,hW0⟩:∃W0,W0=(w.alloc (.cells #[a1,a2,a3,a4] 32)).alloc (.cells #[b1,b2,b3,b4] 32):=⟨_,rfl⟩
 have hbw:Below w.heap.size w W0:=by rw[hW0];exact (bRR.alloc (by simp) _)
 have tA:Four W0 (w.heap.size) a1 a2 a3 a4:=by
  have h:=Four.new w a1 a2 a3 a4 32;rw[hW0];exact (h.alloc _)
 have tB:Four W0 (w.heap.size+1) b1 b2 b3 b4:=by
  have h:=Four.new (w.alloc (.cells #[a1,a2,a3,a4] 32)) b1 b2 b3 b4 32;rw[szA]at h;rw[hW0];exact h
 replace hA:=hA.to hbw;replace hB:=hB.to hbw;have HW0:=Hd hW0;have HB:=Hd hbw;clear hW0 hbw
 go_enter Tryz.func15,Tryz.ntmps15
 go_wp2_with fail
 rw[<-HW0.out];clear HW0;have kktA0:=tA.c0;have kktA1:=tA.c1;have kktA2:=tA.c2;have kktA3:=tA.c3;have kktB0:=tB.c0;have kktB1:=tB.c1;have kktB2:=tB.c2;have kktB3:=tB.c3
 go_wp2_with fail
 refine (hA.1.same hB.1 e1.out).mono ?_;rintro e V1 ⟨rfl,bb⟩;clear kktA0 kktA1 kktA2 kktA3 kktB0 kktB1 kktB2 kktB3;replace tA:=tA.to bb;replace tB:=tB.to bb;replace hA:=hA.to bb;replace hB:=hB.to bb;replace HB:=Hxb HB bb;clear bb;clear tA tB;go_wp2
 go_ret
 exact ⟨rfl,HB.out⟩
theorem is_d {w:World}{a1 a2 a3 a4 b1 b2 b3 b4:Value}{r s:Rat}(hA:Qc w a1 a2 a3 a4 r)(hB:Qc w b1 b2 b3 b4 s)(h:r≠s)(hn:r.num=s.num) :
  Calls Tryz.prog 15 #[.agg #[a1,a2,a3,a4],.agg #[b1,b2,b3,b4]] w (fun e w'=>e=.returned (.bool false)/\Below w.heap.size w w'):=by
 have e1:Hid (decide (r.num=s.num)=true):=decide_eq_true hn;have e2:Hid (decide ((if r.den=1 then 0 else (r.den:Int))=(if s.den=1 then 0 else (s.den:Int)))=false):=decide_eq_false (den_cell h hn);clear h hn;obtain ⟨W0,hW0⟩:∃W0,W0=(w.alloc (.cells #[a1,a2,a3,a4] 32)).alloc (.cells #[b1,b2,b3,b4] 32):=⟨_,rfl⟩
 have hbw:Below w.heap.size w W0:=by rw[hW0];exact (bRR.alloc (by simp) _)
 have tA:Four W0 (w.heap.size) a1 a2 a3 a4:=by
  have h:=Four.new w a1 a2 a3 a4 32;rw[hW0];exact (h.alloc _)
 have tB:Four W0 (w.heap.size+1) b1 b2 b3 b4:=by
  have h:=Four.new (w.alloc (.cells #[a1,a2,a3,a4] 32)) b1 b2 b3 b4 32;rw[szA]at h;rw[hW0];exact h
 replace hA:=hA.to hbw;replace hB:=hB.to hbw;have HW0:=Hd hW0;have HB:=Hd hbw;clear hW0 hbw
 go_enter Tryz.func15,Tryz.ntmps15
 go_wp2_with fail
 rw[<-HW0.out];clear HW0;have kktA0:=tA.c0;have kktA1:=tA.c1;have kktA2:=tA.c2;have kktA3:=tA.c3;have kktB0:=tB.c0;have kktB1:=tB.c1;have kktB2:=tB.c2;have kktB3:=tB.c3
 go_wp2_with fail
 refine (hA.1.same hB.1 e1.out).mono ?_;rintro e V1 ⟨rfl,bb⟩;clear kktA0 kktA1 kktA2 kktA3 kktB0 kktB1 kktB2 kktB3;replace tA:=tA.to bb;replace tB:=tB.to bb;replace hA:=hA.to bb;replace hB:=hB.to bb;replace HB:=Hxb HB bb;clear bb;have kktA0:=tA.c0;have kktA1:=tA.c1;have kktA2:=tA.c2;have kktA3:=tA.c3;have kktB0:=tB.c0;have kktB1:=tB.c1;have kktB2:=tB.c2;have kktB3:=tB.c3
 go_wp2_with fail
 refine (hA.2.same hB.2 e2.out).mono ?_;rintro e V2 ⟨rfl,bb⟩;clear kktA0 kktA1 kktA2 kktA3 kktB0 kktB1 kktB2 kktB3;replace tA:=tA.to bb;replace tB:=tB.to bb;replace HB:=Hxb HB bb;clear bb;clear tA tB;go_wp2
 go_ret
 exact ⟨rfl,HB.out⟩
theorem is_q {w:World}{a1 a2 a3 a4 b1 b2 b3 b4:Value}{r s:Rat}(hA:Qc w a1 a2 a3 a4 r)(hB:Qc w b1 b2 b3 b4 s){v:Bool}(hv:decide (r=s)=v):Calls Tryz.prog 15 #[.agg #[a1,a2,a3,a4],.agg #[b1,b2,b3,b4]] w fun e w'=>e=.returned (.bool v)/\Below w.heap.size w w':=by
 subst hv
 by_cases h:r=s
 .rw[decide_eq_true h];exact is_t hA hB h
 .rw[decide_eq_false h]
  by_cases hn:r.num=s.num
  .exact is_d hA hB h hn
  .exact is_n hA hB hn
theorem is3_len {w:World}{A A':Option Addr}{l l' c c':Nat}(hl:l≠l') :
  Calls Tryz.prog 37 #[.slice A l c,.slice A' l' c'] w fun e w'=>e=.returned (.bool false)/\Below w.heap.size w w':=by
 have h1:((l:Int) != (l':Int))=true:=by rw[bne_iff_ne];omega
 clear hl
 go_enter Tryz.func37,Tryz.ntmps37
 go_wp2
 go_ret
 exact ⟨rfl,Below.refl _ _⟩
theorem is3_f {b:Nat->Bool}{w:World}{A A':Option Addr}{c c' L:Nat}{es fs:List E4}(hx:Rq w w.heap.size A es)(hy:Rq w w.heap.size A' fs)(h1:es.length=L)(h2:fs.length=L)(hL:L<=4398046511104)
  (hF:∀(V:World),Below w.heap.size w V->∀i,i<L->Calls Tryz.prog 15 #[(es.getD i E4.z).v,(fs.getD i E4.z).v] V fun e w'=>e=.returned (.bool (b i))/\Below V.heap.size V w') {r:Bool} (hr:(List.range L).all b=r) :
  Calls Tryz.prog 37 #[.slice A L c,.slice A' L c'] w fun e w'=>e=.returned (.bool r)/\Below w.heap.size w w':=by
 have RX:=Hd hx;have RY:=Hd hy;have H1:=Hd h1;have H2:=Hd h2;have HF:=Hd hF;have HR:=Hd hr;have hne:((L:Int) != (L:Int))=false:=by simp
 clear hx hy h1 h2 hF hr
 go_enter Tryz.func37,Tryz.ntmps37
 go_wp2
 go_loopw [5] (fun i wr=>∃k:Nat,i=.int .i64 k/\k<=L/\(∀j,j<k->b j=true)/\Below w.heap.size w wr) (fun i _=>L-(intOf i).toNat)
 case atStart=>exact ⟨0,rfl,Nat.zero_le _,(fun j hj=>by omega),Below.refl _ _⟩
 case round =>
  obtain ⟨k,rfl,hk,ht,hb⟩:=hrel;have HT:=Hd ht;have HB:=Hd hb;clear ht hb
  by_cases hlt:k<L
  .have hki:(0:Int)<=(k:Int):=by omega
   have hki':(k:Int)<(L:Int):=by omega
   have hkx:k<es.length:=by have:=H1.out;omega
   have hky:k<fs.length:=by have:=H2.out;omega
   have HC:=Hd (fun (V:World) (hV:Below w.heap.size w V)=>HF.out V hV k hlt);obtain ⟨b1,o1,rfl,hb1,f0,f1,f2,f3⟩:=RX.out k hkx;obtain ⟨b2,o2,rfl,hb2,g0,g1,g2,g3⟩:=RY.out k hky;rw[getD_at' hkx,getD_at' hky]at HC
   have FX:Hid (∀w',Below w.heap.size w w'->w'.cell? ⟨b1,o1+k*4,none⟩=some es[k].a/\w'.cell? ⟨b1,o1+k*4+1,none⟩=some es[k].b/\w'.cell? ⟨b1,o1+k*4+2,none⟩=some es[k].c/\w'.cell? ⟨b1,o1+k*4+3,none⟩=some es[k].d):=fun w' hS =>
    ⟨(hS.cell (p:=⟨b1,_,none⟩) hb1).trans f0,(hS.cell (p:=⟨b1,_,none⟩) hb1).trans f1,(hS.cell (p:=⟨b1,_,none⟩) hb1).trans f2,(hS.cell (p:=⟨b1,_,none⟩) hb1).trans f3⟩
   have FY:Hid (∀w',Below w.heap.size w w'->w'.cell? ⟨b2,o2+k*4,none⟩=some fs[k].a/\w'.cell? ⟨b2,o2+k*4+1,none⟩=some fs[k].b/\w'.cell? ⟨b2,o2+k*4+2,none⟩=some fs[k].c/\w'.cell? ⟨b2,o2+k*4+3,none⟩=some fs[k].d):=fun w' hS =>
    ⟨(hS.cell (p:=⟨b2,_,none⟩) hb2).trans g0,(hS.cell (p:=⟨b2,_,none⟩) hb2).trans g1,(hS.cell (p:=⟨b2,_,none⟩) hb2).trans g2,(hS.cell (p:=⟨b2,_,none⟩) hb2).trans g3⟩
   generalize es[k]=X at FX HC;generalize fs[k]=Y at FY HC;obtain ⟨x1,x2,x3,x4⟩:=X;obtain ⟨y1,y2,y3,y4⟩:=Y;simp only[E4.v]at HC;dsimp only at FX FY;have HLT:=Hd hlt;clear f0 f1 f2 f3 g0 g1 g2 g3 hb1 hb2 hkx hky HF RX RY hlt;obtain ⟨v,hv⟩:∃v,b k=v:=⟨_,rfl⟩
   rw[hv]at HC;have HV:=Hd hv;clear hv
   cases v with
   | true =>
    go_wp2_with fail
    refine wp_region_plan (S:=fun w'=>Below w.heap.size w w') [(0,true),(1,true),(2,true),(3,true),(4,true),(5,true),(6,true),(7,true),(8,false),(9,true)] (by kernel_rfl) (by kernel_rfl) HB.out.drew ?_;have hb:=HB.out.drew
    iterate 8 (refine plan_take (v:=?_) rfl (by rfl) ?_ ?_;rotate_left;(focus (intro w' hS;obtain ⟨f0,f1,f2,f3⟩:=FX.out w' hS;obtain ⟨g0,g1,g2,g3⟩:=FY.out w' hS;go_simp;try with_reducible rfl)))
    refine plan_call rfl (by rfl) (fun K hK=>?_);go_simp
    refine (HC.out _ hb).mono ?_;rintro e V ⟨rfl,bb⟩;replace hb:=Bxb hb bb;refine hK.out _ _ hb ?_;clear hK K bb;refine plan_take (v:=?_) rfl (by rfl) ?_ ?_;rotate_left;(focus (intro w' hS;obtain ⟨f0,f1,f2,f3⟩:=FX.out w' hS;obtain ⟨g0,g1,g2,g3⟩:=FY.out w' hS;go_simp;try with_reducible rfl));refine plan_done ?_;have HE:=Hd hb;clear hb HB;go_wp2
    go_roundw
    case rel =>
     refine ⟨k+1,by simp,HLT.out,fun j hj=>?_,HE.out⟩
     by_cases hjk:j=k
     .subst hjk;exact HV.out
     .exact HT.out j (by omega)
    case measure=>have:=HLT.out;simp[intOf];omega
   | false =>
    go_wp2_with fail
    refine wp_region_plan (S:=fun w'=>Below w.heap.size w w') [(0,true),(1,true),(2,true),(3,true),(4,true),(5,true),(6,true),(7,true),(8,false),(9,true)] (by kernel_rfl) (by kernel_rfl) HB.out.drew ?_;have hb:=HB.out.drew
    iterate 8 (refine plan_take (v:=?_) rfl (by rfl) ?_ ?_;rotate_left;(focus (intro w' hS;obtain ⟨f0,f1,f2,f3⟩:=FX.out w' hS;obtain ⟨g0,g1,g2,g3⟩:=FY.out w' hS;go_simp;try with_reducible rfl)))
    refine plan_call rfl (by rfl) (fun K hK=>?_);go_simp
    refine (HC.out _ hb).mono ?_;rintro e V ⟨rfl,bb⟩;replace hb:=Bxb hb bb;refine hK.out _ _ hb ?_;clear hK K bb;refine plan_take (v:=?_) rfl (by rfl) ?_ ?_;rotate_left;(focus (intro w' hS;obtain ⟨f0,f1,f2,f3⟩:=FX.out w' hS;obtain ⟨g0,g1,g2,g3⟩:=FY.out w' hS;go_simp;try with_reducible rfl));refine plan_done ?_;have HE:=Hd hb;clear hb HB;go_wp2
    go_ret
    refine ⟨?_,HE.out⟩
    rw[<-HR.out,show (List.range L).all b=false from by
     rw[List.all_eq_false]
     exact ⟨k,by simpa using HLT.out,by rw[HV.out];decide⟩]
    rfl
  .obtain rfl:k=L:=by omega
   go_wp2
   go_ret
   refine ⟨?_,HB.out⟩
   rw[<-HR.out,show (List.range k).all b=true from by
    rw[List.all_eq_true];intro x hx
    exact HT.out x (by simpa using hx)]
   rfl
theorem all_same {rs ss:List Rat}{L:Nat}(h1:rs.length=L)(h2:ss.length=L):(List.range L).all (fun i=>decide (rs.getD i 0=ss.getD i 0))=decide (rs=ss):=by
 rw[Bool.eq_iff_iff,List.all_eq_true,decide_eq_true_eq]
 constructor
 .intro h;refine List.ext_getElem (by omega) fun i hi hj=>?_
  have:=h i (by simp;omega);rw[decide_eq_true_eq,getD_lt hi,getD_lt hj]at this;exact this
 .rintro rfl x _;simp
theorem vis_v {w:World}{A A':Option Addr}{c c':Nat}{es fs:List E4}{rs ss:List Rat}(hA:Vc w A c es rs)(hB:Vc w A' c' fs ss)(hL:rs.length<=4398046511104){v:Bool}(hv:decide (rs=ss)=v) :
  Calls Tryz.prog 37 #[.slice A rs.length c,.slice A' ss.length c'] w fun e w'=>e=.returned (.bool v)/\Below w.heap.size w w':=by
 by_cases h:rs.length=ss.length
 .rw[<-h];exact is3_f (b:=fun i=>decide (rs.getD i 0=ss.getD i 0)) hA.row hB.row hA.len (by rw[hB.len,h]) hL (fun V hV i _=>is_q ((hA.el i).to hV) ((hB.el i).to hV) rfl) (by rw[all_same rfl h.symm];exact hv)
 .rw[<-hv,decide_eq_false (fun e=>h (by rw[e]))];exact is3_len h
theorem Hp.cellAt {W:World}{g:Nat}{cs:Array Value}{t:TypeId}(h:Hp W g (.cells cs t (0,0)))(j:Nat):W.cell? ⟨g,j,none⟩=cs[j]?:=by simp[World.cell?,show W.heap[g]?=_ from h]
theorem sm2_of {z:Int}(h:z.natAbs<18446744073709551616):Sm 2 z:=h
theorem rats_qm {ns:List Int}(h:ns.all (fun n=>decide (n.natAbs<18446744073709551616))=true)(i:Nat):Qm 2 ((ratsOf ns).getD i 0):=by
 by_cases hi:i<ns.length
 .rw[ratsOf_getD hi,getD_lt hi];exact Qm.int (sm2_of (by simpa using (List.all_eq_true.1 h) _ (List.getElem_mem hi))) (by decide)
 .rw[getD_ge (by rw[ratsOf_length];omega)];exact Qm.zero (by decide)
theorem fill_m {w:World}{N F:Nat}{caps:Array Value}{rs:Nat->List Rat}(hl:N+1<=1000000)(ec:∀args V,(callFunc F args).run Tryz.prog V=.ok (.enter F args) V)
  (hC:∀(V:World),Below w.heap.size w V->∀i:Nat,i<N->Calls Tryz.prog F (#[.int .i64 (i:Int)]++caps) V (VR V (rs i))) :
  Calls Tryz.prog 63 #[.agg #[.int .i64 (N:Int),.func (.func F) #[] caps]] w (MR w N rs):=by
 have HL:=Hd hl;have EC:=Hd ec;have HC:=Hd hC;obtain ⟨W0,hW0⟩:∃W0,W0=w.alloc (.cells #[.int .i64 (N:Int),.func (.func F) #[] caps] 74):=⟨_,rfl⟩
 have hbw:Below w.heap.size w W0:=by rw[hW0];exact bRR
 have hp:Hp W0 w.heap.size (.cells #[.int .i64 (N:Int),.func (.func F) #[] caps] 74 (0,0)):=by rw[hW0];exact Hp.new _ _ _
 have q0:W0.cell? ⟨w.heap.size,0,none⟩=some (.int .i64 (N:Int)):=(hp.cellAt 0).trans rfl;have q1:W0.cell? ⟨w.heap.size,1,none⟩=some (.func (.func F) #[] caps):=(hp.cellAt 1).trans rfl;have hlt0:=hp.lt;have HP:Hid (∀V,Below W0.heap.size W0 V->V.cell? ⟨w.heap.size,0,none⟩=some (.int .i64 (N:Int))/\V.cell? ⟨w.heap.size,1,none⟩=some (.func (.func F) #[] caps)):=fun V hV=>⟨(hV.cell (p:=⟨_,_,none⟩) hlt0).trans q0,(hV.cell (p:=⟨_,_,none⟩) hlt0).trans q1⟩
 have HW:=Hd hbw;have HW0:=Hd hW0;rw[hW0]at q0;have q2:=(HP.out (W0.alloc (.cells (zrow N) 38)) bRR).1;clear hl ec hC hW0 hp hbw q1 hlt0
 go_enter Tryz.func63,Tryz.ntmps63
 go_wp2_with (at_make;rw[<-HW0.out];refine wpList_makes W0 rfl _ _ rfl 0 N rfl rfl (by omega) (by omega) (Nat.zero_le _) (by have:=HL.out;omega) ?_)
 have hacc:Hid (TotS (Vs rs) (W0.alloc (.cells (zrow N) 38)) (.slice (some ⟨W0.heap.size,0,none⟩) 0 N) 0 W0.heap.size):=TotS.new (Nat.le_refl _) (by have:=HL.out;omega);have hb1:Below W0.heap.size W0 (W0.alloc (.cells (zrow N) 38)):=bRR;generalize W0.alloc (.cells (zrow N) 38)=w1 at hacc hb1 q2 ⊢;clear HW0 q2 q0
 go_loopw [3,10] (fun v i wr=>∃(k:Nat) (A1:Option Addr) (c1:Nat),v=.slice A1 k c1/\i=.int .i64 k/\k<=N/\Hid (TotS (Vs rs) wr (.slice A1 k c1) k W0.heap.size)/\Below W0.heap.size W0 wr) (fun _ i _=>N-(intOf i).toNat)
 case atStart=>exact ⟨0,_,_,rfl,rfl,Nat.zero_le _,hacc,hb1⟩
 case round =>
  obtain ⟨k,A1,c1,rfl,rfl,hk,hT,hb⟩:=hrel;clear hacc hb1
  by_cases hlt:k<N
  .have hk1:(0:Int)<=(k:Int):=by omega
   have hk2:(k:Int)<(N:Int):=by omega
   have hk3:(k:Int)+1<=9223372036854775807:=by have:=HL.out;omega
   obtain ⟨q0,q1⟩:=HP.out wr hb;have HCK:=Hd (HC.out wr (HW.out.trans (hb.mono HW.out.size)) k hlt);have HB:=Hd hb;have HLT:=Hd hlt;clear hb hlt hk
   go_wp2_with fail
   rw[EC.out];go_simp
   refine HCK.out.mono ?_;rintro e V ⟨A2,c2,fl2,rfl,hv,bb⟩;have bb2:Below V.heap.size V (V.alloc (.cells #[.slice A2 (rs k).length c2] 38)):=bRR;have c5:=(Hp.new V #[.slice A2 (rs k).length c2] 38).one;have hB1:=HB.out.trans (bb.mono HB.out.size);have hB2:=Bxb hB1 bb2;obtain ⟨v',X,hrun,hT2,hbel⟩:=sapp (Vs.kept rs) ((hT.out.mv (Vs.kept rs) bb).mv (Vs.kept rs) bb2) hB2.size (by have:=HL.out;have:=HLT.out;omega) ⟨_,_,_,rfl⟩ ⟨A2,c2,fl2,rfl,hv.to bb2⟩ (a:=⟨V.heap.size,0,none⟩) (c:=1) c5 22;obtain ⟨A3,c3,rfl⟩:=hT2.sl;have HRUN:=Hd hrun;have HE:Hid (TotS (Vs rs) X (.slice A3 (k+1) c3) (k+1) W0.heap.size/\Below W0.heap.size W0 X):=⟨hT2,hB2.trans hbel⟩
   clear bb2 c5 hbel hrun bb hv hT2 hB1 hB2 q0 q1 HCK
   go_wp2_with (at_builtin;refine wpList_append_run rfl (.tmp 13) (.tmp 18) 22 rfl (by rfl) (by rfl) HRUN.out ?_;clear HRUN)
   go_roundw
   case rel=>exact ⟨k+1,A3,c3,rfl,by simp,HLT.out,HE.out.1,HE.out.2⟩
   case measure=>have:=HLT.out;simp[intOf];omega
  .obtain rfl:k=N:=by omega
   have HB:=Hd hb;clear hb hlt hk;go_wp2
   go_ret
   exact ⟨A1,c1,rfl,hT.out.mc,HW.out.trans (HB.out.mono HW.out.size)⟩
theorem allowed_z {w:World}{n:Int}{N:Nat}(h:min (max n 0) 1024=(N:Int)) :
  Calls Tryz.prog 60 #[.int .i64 n] w fun e w'=>e=.returned (.int .i64 (N:Int))/\Below w.heap.size w w':=by
 obtain ⟨x,hx⟩:∃x,max n 0=x:=⟨_,rfl⟩
 rw[hx]at h
 go_enter Tryz.func60,Tryz.ntmps60
 go_wp2
 go_ret
 exact ⟨rfl,Below.refl _ _⟩
theorem rints_v {w:World}{A:Option Addr}{c:Nat}{ns:List Int}(h:Rn w A ns)(hn:∀n∈ns,-9223372036854775808<=n/\n<=9223372036854775807)(hl:ns.length+1<=1000000) :
  Calls Tryz.prog 50 #[.slice A ns.length c] w (VR w (ratsOf ns)):=by
 have H:=Hd h;have HN:=Hd hn;have HL:=Hd hl;obtain ⟨f,hf⟩:∃f:Nat->Rat,Hid (f=fun i=>(ratsOf ns).getD i 0):=⟨_,rfl⟩
 obtain ⟨N,hN⟩:∃N,ns.length=N:=⟨_,rfl⟩
 have HNN:=Hd hN;rw[hN]at hl HL ⊢;clear h hn hN
 go_enter Tryz.func50,Tryz.ntmps50
 go_wp2
 go_loopw [3,4] (fun v i wr=>∃(k:Nat) (A1:Option Addr) (c1:Nat),v=.slice A1 k c1/\i=.int .i64 k/\k<=N/\Hid (TotV wr (.slice A1 k c1) k f w.heap.size)/\Below w.heap.size w wr) (fun _ i _=>N-(intOf i).toNat)
 case atStart=>exact ⟨0,none,0,rfl,rfl,Nat.zero_le _,.inl ⟨rfl,rfl⟩,Below.refl _ _⟩
 case round =>
  obtain ⟨k,A1,c1,rfl,rfl,hk,hT,hb⟩:=hrel
  by_cases hlt:k<N
  .have hk1:(0:Int)<=(k:Int):=by omega
   have hk2:(k:Int)<(N:Int):=by omega
   have hk3:(k:Int)+1<=9223372036854775807:=by omega
   have hkn:k<ns.length:=by have:=HNN.out;omega
   obtain ⟨b,o,rfl,hc⟩:=H.out k hkn;have hbn:=HN.out _ (List.getElem_mem hkn);have hfk:Hid (f k=((ns[k]:Int):Rat)):=by show _=_;rw[hf.out];simp[ratsOf,List.getD,hkn]
   have cc:=(hb.cell (p:=⟨b,o+k,none⟩) (World.block_lt_of_cell? w _ hc)).trans hc;generalize ns[k]=n at hbn hfk cc;have HB:=Hd hb;have HLT:=Hd hlt;have HBN:=Hd hbn;clear hc hb hkn hbn hlt
   go_wp2_with fail
   refine (rint_q n HBN.out.1 HBN.out.2 wr).mono ?_;rintro e V ⟨x1,x2,x3,x4,rfl,q,bb⟩;have bb2:Below V.heap.size V (V.alloc (.cells #[x1,x2,x3,x4] 32)):=bRR;have c5:=(Hp.new V #[x1,x2,x3,x4] 32).four;have hB1:=HB.out.trans (bb.mono HB.out.size);have hB2:=Bxb hB1 bb2;obtain ⟨v',X,hrun,hT2,hbel⟩:=qapp ((hT.out.to bb).to bb2) hB2.size (by have:=HL.out;have:=HLT.out;omega) (e:=⟨x1,x2,x3,x4⟩) q.fq (by rw[hfk.out];exact q.to bb2) (a:=⟨V.heap.size,0,none⟩) (c:=1) c5.c0 c5.c1 c5.c2 c5.c3 38;obtain ⟨A2,c2,rfl⟩:=hT2.sl;have HRUN:=Hd hrun;have HE:Hid (TotV X (.slice A2 (k+1) c2) (k+1) f w.heap.size/\Below w.heap.size w X):=⟨hT2,hB2.trans hbel⟩
   clear bb2 c5 hbel hrun bb q hT2 hB1 hB2
   go_wp2_with (at_builtin;refine wpList_append_run rfl (.tmp 11) (.tmp 17) 38 rfl (by rfl) (by rfl) HRUN.out ?_;clear HRUN)
   go_roundw
   case rel=>exact ⟨k+1,A2,c2,rfl,by simp,HLT.out,HE.out.1,HE.out.2⟩
   case measure=>have:=HLT.out;simp[intOf];omega
  .obtain rfl:k=N:=by omega
   have HT:=hT;have HB:=Hd hb;clear hT hb hlt;go_wp2
   go_ret
   have h1:=HT.out;have h2:(ratsOf ns).length=k:=by rw[ratsOf_length,HNN.out]
   rw[hf.out]at h1;subst h2;exact h1.vr (by have:=HL.out;omega) HB.out
structure Im (W:World)(P:Option Addr)(N:Nat)(ns:Nat->List Int):Prop where
 row:∀k,k<N->∃b o A c,P=some ⟨b,o,none⟩/\b<W.heap.size/\W.cell? ⟨b,o+k,none⟩=some (.slice A (ns k).length c)/\Rn W A (ns k)
 bd:∀k,k<N->∀n∈ns k,-9223372036854775808<=n/\n<=9223372036854775807
 le:∀k,k<N->(ns k).length+1<=1000000
def Rs (W:World)(P:Option Addr)(N:Nat)(rs:Nat->List Rat):Prop:=∀k,k<N->∃b o A c,P=some ⟨b,o,none⟩/\b<W.heap.size/\W.cell? ⟨b,o+k,none⟩=some (.slice A (rs k).length c)
theorem Mc.rs {W:World}{P:Option Addr}{N C:Nat}{rs:Nat->List Rat}(h:Mc W P N C rs):Rs W P N rs:=fun k hk=>by
 obtain ⟨b,o,A,c,es,e,h1,h2,h3⟩:=h.row k hk;exact ⟨b,o,A,c,e,h1,h2⟩
theorem Mi.rs {W:World}{P:Option Addr}{N C m:Nat}{rs:Nat->List Rat}(h:Mi W P N C rs m):Rs W P N rs:=fun k hk=>by
 obtain ⟨b,o,A,c,es,e,h1,h2,h3⟩:=h.row k hk;exact ⟨b,o,A,c,e,h1,h2⟩
theorem Rn.go {W V:World}{A:Option Addr}{ns:List Int}(h:Rn W A ns)(hb:Below W.heap.size W V):Rn V A ns:=fun k hk=>by
 obtain ⟨b,o,e,hc⟩:=h k hk;exact ⟨b,o,e,(hb.cell (p:=⟨b,o+k,none⟩) (World.block_lt_of_cell? W _ hc)).trans hc⟩
theorem Im.to {W V:World}{P:Option Addr}{N:Nat}{ns:Nat->List Int}(h:Im W P N ns)(hb:Below W.heap.size W V):Im V P N ns :=
 ⟨fun k hk=>by
  obtain ⟨b,o,A,c,e,h1,h2,h3⟩:=h.row k hk
  exact ⟨b,o,A,c,e,Nat.lt_of_lt_of_le h1 hb.size,(hb.cell (p:=⟨b,_,none⟩) h1).trans h2,h3.go hb⟩,h.bd,h.le⟩
theorem rints4_m {w:World}{P:Option Addr}{N C:Nat}{ns:Nat->List Int}(h:Im w P N ns)(hl:N+1<=1000000) :
  Calls Tryz.prog 42 #[.slice P N C] w (MR w N (fun k=>ratsOf (ns k))):=by
 have HL:=Hd hl;have HI:=Hd (fun (V:World) (hV:Below w.heap.size w V) k (hk:k<N) {A:Option Addr} {c:Nat} (hA:Rn V A (ns k))=>rints_v (c:=c) hA (h.bd k hk) (h.le k hk));have HR:=Hd (fun (V:World) (hV:Below w.heap.size w V)=>(h.to hV).row);obtain ⟨rs,hrs⟩:∃rs:Nat->List Rat,rs=fun k=>ratsOf (ns k):=⟨_,rfl⟩
 have hrk:∀k,ratsOf (ns k)=rs k:=fun k=>by rw[hrs]
 simp only[hrk]at HI;rw[<-hrs];have HRL:Hid (∀k,(rs k).length=(ns k).length):=fun k=>by rw[<-hrk,ratsOf_length]
 clear h hrs hrk
 go_enter Tryz.func42,Tryz.ntmps42
 go_wp2
 go_loopw [3,4] (fun v i wr=>∃(k:Nat) (A1:Option Addr) (c1:Nat),v=.slice A1 k c1/\i=.int .i64 k/\k<=N/\Hid (TotS (Vs rs) wr (.slice A1 k c1) k w.heap.size)/\Below w.heap.size w wr) (fun _ i _=>N-(intOf i).toNat)
 case atStart=>exact ⟨0,none,0,rfl,rfl,Nat.zero_le _,.inl ⟨rfl,rfl⟩,Below.refl _ _⟩
 case round =>
  obtain ⟨k,A1,c1,rfl,rfl,hk,hT,hb⟩:=hrel
  by_cases hlt:k<N
  .have hk1:(0:Int)<=(k:Int):=by omega
   have hk2:(k:Int)<(N:Int):=by omega
   have hk3:(k:Int)+1<=9223372036854775807:=by have:=HL.out;omega
   obtain ⟨b,o,A,c,rfl,hb1,cc,hA⟩:=HR.out wr hb k hlt;have HC:=Hd (HI.out wr hb k hlt (c:=c) hA);clear hA hb1;have HB:=Hd hb;have HLT:=Hd hlt;clear hb hlt hk
   go_wp2_with fail
   refine (HC.out).mono ?_;rintro e V ⟨A2,c2,fl2,rfl,hv,bb⟩;have bb2:Below V.heap.size V (V.alloc (.cells #[.slice A2 (rs k).length c2] 38)):=bRR;have c5:=(Hp.new V #[.slice A2 (rs k).length c2] 38).one;have hB1:=HB.out.trans (bb.mono HB.out.size);have hB2:=Bxb hB1 bb2;obtain ⟨v',X,hrun,hT2,hbel⟩:=sapp (Vs.kept rs) ((hT.out.mv (Vs.kept rs) bb).mv (Vs.kept rs) bb2) hB2.size (by have:=HL.out;have:=HLT.out;omega) ⟨_,_,_,rfl⟩ ⟨A2,c2,fl2,rfl,hv.to bb2⟩ (a:=⟨V.heap.size,0,none⟩) (c:=1) c5 22;obtain ⟨A3,c3,rfl⟩:=hT2.sl;have HRUN:=Hd hrun;have HE:Hid (TotS (Vs rs) X (.slice A3 (k+1) c3) (k+1) w.heap.size/\Below w.heap.size w X):=⟨hT2,hB2.trans hbel⟩
   clear bb2 c5 hbel hrun bb hv hT2 hB1 hB2
   go_wp2_with (at_builtin;refine wpList_append_run rfl (.tmp 11) (.tmp 17) 22 rfl (by rfl) (by rfl) HRUN.out ?_;clear HRUN)
   go_roundw
   case rel=>exact ⟨k+1,A3,c3,rfl,by simp,HLT.out,HE.out.1,HE.out.2⟩
   case measure=>have:=HLT.out;simp[intOf];omega
  .obtain rfl:k=N:=by omega
   have HT:=hT;have HB:=Hd hb;clear hT hb hlt hk;go_wp2
   go_ret
   exact ⟨A1,c1,rfl,HT.out.mc,HB.out⟩
theorem is4_t {w:World}{P Q:Option Addr}{N C D:Nat}{rs ss:Nat->List Rat}(hx:Mc w P N C rs)(hy:Mc w Q N D ss)(he:∀k,k<N->rs k=ss k)(hl:∀k,k<N->(rs k).length<=4398046511104) :
  Calls Tryz.prog 20 #[.slice P N C,.slice Q N D] w fun e w'=>e=.returned (.bool true)/\Below w.heap.size w w':=by
 have RX:=Hd hx.row;have RY:=Hd hy.row;have HN:=Hd (hx.n63);have HE:=Hd he;have HL:=Hd hl;have hne:((N:Int) != (N:Int))=false:=by simp
 clear hx hy he hl
 go_enter Tryz.func20,Tryz.ntmps20
 go_wp2
 go_loopw [5] (fun i wr=>∃k:Nat,i=.int .i64 k/\k<=N/\Below w.heap.size w wr) (fun i _=>N-(intOf i).toNat)
 case atStart=>exact ⟨0,rfl,Nat.zero_le _,Below.refl _ _⟩
 case round =>
  obtain ⟨k,rfl,hk,hb⟩:=hrel
  by_cases hlt:k<N
  .have hk1:(0:Int)<=(k:Int):=by omega
   have hk2:(k:Int)<(N:Int):=by omega
   have hk3:(k:Int)+1<=9223372036854775807:=by have:=HN.out;omega
   obtain ⟨b1,o1,A1,c1,es1,rfl,hb1,f1,v1⟩:=RX.out k hlt;obtain ⟨b2,o2,A2,c2,es2,rfl,hb2,f2,v2⟩:=RY.out k hlt;have HC:=Hd (fun (V:World) (hV:Below w.heap.size w V)=>vis_v (v1.to hV) (v2.to hV) (HL.out k hlt) (decide_eq_true (HE.out k hlt)));have F1:Hid (∀V,Below w.heap.size w V->V.cell? ⟨b1,o1+k,none⟩=some (.slice A1 (rs k).length c1)):=fun V hV=>(hV.cell (p:=⟨b1,_,none⟩) hb1).trans f1
   have F2:Hid (∀V,Below w.heap.size w V->V.cell? ⟨b2,o2+k,none⟩=some (.slice A2 (ss k).length c2)):=fun V hV=>(hV.cell (p:=⟨b2,_,none⟩) hb2).trans f2
   have HB:=Hd hb;have HLT:=Hd hlt;clear v1 v2 hb1 hb2 hb hlt hk RX RY HE HL f1 f2
   go_wp2_with fail
   refine wp_region_plan (S:=fun w'=>Below w.heap.size w w') [(0,true),(1,true),(2,true),(3,true),(4,true),(5,true),(6,true),(7,true),(8,false),(9,true)] (by kernel_rfl) (by kernel_rfl) HB.out.drew ?_;have hb:=HB.out.drew
   iterate 3 (refine plan_take (v:=?_) rfl (by rfl) ?_ ?_;rotate_left;(focus (intro w' _;go_simp;try with_reducible rfl));simp only[Act.put,pqA,pqB,pqC])
   refine plan_take (v:=?_) rfl (by rfl) ?_ ?_;rotate_left;(focus (intro w' hS;have f1:=F1.out w' hS;go_simp;try with_reducible rfl));simp only[Act.put,pqA,pqB,pqC]
   iterate 3 (refine plan_take (v:=?_) rfl (by rfl) ?_ ?_;rotate_left;(focus (intro w' _;go_simp;try with_reducible rfl));simp only[Act.put,pqA,pqB,pqC])
   refine plan_take (v:=?_) rfl (by rfl) ?_ ?_;rotate_left;(focus (intro w' hS;have f2:=F2.out w' hS;go_simp;try with_reducible rfl));simp only[Act.put,pqA,pqB,pqC];refine plan_call rfl (by rfl) (fun K hK=>?_);go_simp
   refine (HC.out _ hb).mono ?_;rintro e V ⟨rfl,bb⟩;replace hb:=Bxb hb bb;refine hK.out _ _ hb ?_;clear hK K bb;refine plan_take (v:=?_) rfl (by rfl) ?_ ?_;rotate_left;(focus (intro w' _;go_simp;try with_reducible rfl));simp only[Act.put,pqA,pqB,pqC];refine plan_done ?_;have HB2:=Hd hb;clear hb HC F1 F2 HB;go_wp2
   go_roundw
   case rel=>exact ⟨k+1,by simp,HLT.out,HB2.out⟩
   case measure=>have:=HLT.out;simp[intOf];omega
  .obtain rfl:k=N:=by omega
   have HB:=Hd hb;clear hb hlt hk RX RY HE HL;go_wp2
   go_ret
   exact ⟨rfl,HB.out⟩
theorem rcols_m {w:World}{P:Option Addr}{N C:Nat}{rs:Nat->List Rat}(hx:Rs w P N rs)(hN:N<=9223372036854775806)(hl:∀k,k<N->(rs k).length<=9223372036854775807) :
  Calls Tryz.prog 14 #[.slice P N C] w fun e w'=>e=.returned (.int .i64 (colsN rs N))/\Below w.heap.size w w':=by
 have RX:=Hd hx;have HN:=Hd hN;have HL:=Hd hl;have HM:=Hd (fun k (hk:k<=N)=>colsN_le (rs:=rs) (M:=9223372036854775807) (N:=k) (fun j hj=>hl j (by omega)));clear hx hl hN
 go_enter Tryz.func14,Tryz.ntmps14
 go_wp2
 go_loopw [3,4] (fun v i wr=>∃k:Nat,v=.int .i64 (colsN rs k:Nat)/\i=.int .i64 k/\k<=N/\Below w.heap.size w wr) (fun _ i _=>N-(intOf i).toNat)
 case atStart=>exact ⟨0,rfl,rfl,Nat.zero_le _,Below.refl _ _⟩
 case round =>
  obtain ⟨k,rfl,rfl,hk,hb⟩:=hrel
  by_cases hlt:k<N
  .have hk1:(0:Int)<=(k:Int):=by omega
   have hk2:(k:Int)<(N:Int):=by omega
   have hk3:(k:Int)+1<=9223372036854775807:=by have:=HN.out;omega
   obtain ⟨b,o,A,c,rfl,hb1,f1⟩:=RX.out k hlt;replace f1:=(hb.cell (p:=⟨b,_,none⟩) hb1).trans f1;have e1:colsN rs (k+1)=max (colsN rs k) (rs k).length:=rfl;have h1:=HM.out k (by omega);have h2:=HL.out k hlt;have HLT:=Hd hlt;have HB:=Hd hb;clear hlt hb hk hb1;obtain ⟨x,hx⟩:∃x,colsN rs (k+1)=x:=⟨_,rfl⟩
   have HX:=Hd hx;rw[hx]at e1;clear hx;generalize colsN rs k=y at e1 h1 ⊢;generalize (rs k).length=z at e1 f1 h2;have e3:(max (y:Int) (z:Int))=(x:Int):=by omega
   clear e1 h1 h2;go_wp2
   go_roundw
   case rel=>exact ⟨k+1,by rw[HX.out],by simp,HLT.out,HB.out⟩
   case measure=>have:=HLT.out;simp[intOf];omega
  .obtain rfl:k=N:=by omega
   have HB:=Hd hb;clear hb hlt hk RX HL HM;go_wp2
   go_ret
   exact ⟨rfl,HB.out⟩
theorem cols_m {w:World}{P:Option Addr}{N C:Nat}{rs:Nat->List Rat}(hx:Rs w P N rs)(hN:N<=9223372036854775806)(hl:∀k,k<N->(rs k).length<=9223372036854775807) :
  Calls Tryz.prog 13 #[.slice P N C] w fun e w'=>e=.returned (.int .i64 (colsN rs N))/\Below w.heap.size w w':=by
 have RX:=Hd hx;have HN:=Hd hN;have HL:=Hd hl;have HM:=Hd (fun k (hk:k<=N)=>colsN_le (rs:=rs) (M:=9223372036854775807) (N:=k) (fun j hj=>hl j (by omega)));clear hx hl hN
 go_enter Tryz.func13,Tryz.ntmps13
 go_wp2
 go_loopw [3,8] (fun v i wr=>∃k:Nat,v=.int .i64 (colsN rs k:Nat)/\i=.int .i64 k/\k<=N/\Below w.heap.size w wr) (fun _ i _=>N-(intOf i).toNat)
 case atStart=>exact ⟨0,rfl,rfl,Nat.zero_le _,Below.refl _ _⟩
 case round =>
  obtain ⟨k,rfl,rfl,hk,hb⟩:=hrel
  by_cases hlt:k<N
  .have hk1:(0:Int)<=(k:Int):=by omega
   have hk2:(k:Int)<(N:Int):=by omega
   have hk3:(k:Int)+1<=9223372036854775807:=by have:=HN.out;omega
   obtain ⟨b,o,A,c,rfl,hb1,f1⟩:=RX.out k hlt;replace f1:=(hb.cell (p:=⟨b,_,none⟩) hb1).trans f1;have e1:colsN rs (k+1)=max (colsN rs k) (rs k).length:=rfl;have h1:=HM.out k (by omega);have h2:=HL.out k hlt;have HLT:=Hd hlt;have HB:=Hd hb;clear hlt hb hk hb1;obtain ⟨x,hx⟩:∃x,colsN rs (k+1)=x:=⟨_,rfl⟩
   have HX:=Hd hx;rw[hx]at e1;clear hx;generalize colsN rs k=y at e1 h1 ⊢;generalize (rs k).length=z at e1 f1 h2;have e3:(max (y:Int) (z:Int))=(x:Int):=by omega
   clear e1 h1 h2;go_wp2
   go_roundw
   case rel=>exact ⟨k+1,by rw[HX.out],by simp,HLT.out,HB.out⟩
   case measure=>have:=HLT.out;simp[intOf];omega
  .obtain rfl:k=N:=by omega
   have HB:=Hd hb;clear hb hlt hk RX HL HM;go_wp2
   go_ret
   exact ⟨rfl,HB.out⟩
end Go.Proofs.YtglhdielkkhefaaGreat
