/- Parts: 1. -/
import Derived.Test.YtglhdielkkhefaaGreatMs24
import Derived.Test.YtglhdielkkhefaaGreatMs25
set_option linter.unusedVariables false
set_option linter.unusedSimpArgs false
set_option maxRecDepth 100000
set_option maxHeartbeats 40000000

namespace Go.Proofs.YtglhdielkkhefaaGreat
open Go.RowKit Go.Shelf
def Vk (rs:Nat->List Rat)(m:Nat)(W:World)(i:Nat)(v:Value):Prop:=∃A c es,v=.slice A (rs i).length c/\Vi W A c es (rs i) m
theorem RowS.vi {W:World}{g:Nat}{fl:List Value}(h:RowS W g fl){cs:Array Value}{A:Option Addr}{c m:Nat}{es:List E4}{rs:List Rat}(hv:Vi W A c es rs m):Vi (W.setRow g cs) A c es rs m :=
 ⟨by rw[setRow_size];exact h.rq hv.row hv.fq,hv.len,fun i=>h.kw.qi (hv.el i),hv.fq,hv.cap,hv.c63⟩
theorem Vk.kept (rs:Nat->List Rat)(m:Nat):KeptS (Vk rs m) where
 to:=fun hb h=>by
  obtain ⟨A,c,es,e,h⟩:=h
  exact ⟨A,c,es,e,h.to hb⟩
 set:=fun hr h=>by
  obtain ⟨A,c,es,e,h⟩:=h
  exact ⟨A,c,es,e,hr.vi h⟩
theorem TotS.mi {rs:Nat->List Rat}{m:Nat}{W:World}{P:Option Addr}{n c B:Nat}(h:TotS (Vk rs m) W (.slice P n c) n B):Mi W P n c rs m:=by
 rcases h with ⟨rfl,h⟩|⟨g,cap,fl,h1,h2,h3,h4,h5,h6,h7⟩
 .cases h
  exact ⟨fun k hk=>absurd hk (Nat.not_lt_zero _),by decide⟩
 .cases h1
  refine ⟨fun k hk=>?_,Nat.le_trans h5 h6⟩
  obtain ⟨A,d,es,e,h8⟩:=h7 k hk
  refine ⟨g,0,A,d,es,rfl,h3.lt,?_,h8⟩
  rw[<-e]
  have hk2:k<fl.length:=by omega
  simp[World.cell?,h3.heap,List.getD,hk2]
theorem Vi.part {W:World}{b o c m k:Nat}{es:List E4}{rs:List Rat}(h:Vi W (some ⟨b,o,none⟩) c es rs m)(hk:k<rs.length):∃es',Vi W (some ⟨b,o+k*4,none⟩) (c-k) es' [rs.getD k 0] m:=by
 have hk2:k<es.length:=by rw[h.len];exact hk
 obtain ⟨b',o',e,hb,h0,h1,h2,h3⟩:=h.row k hk2
 cases e
 refine ⟨[es[k]],fun j hj=>?_,rfl,fun i=>?_,fun e he=>?_,?_,?_⟩
 .obtain rfl:j=0:=by simpa using hj
  exact ⟨b,o+k*4,rfl,hb,by simpa using h0,by simpa using h1,by simpa using h2,by simpa using h3⟩
 .match i with
  | 0 =>
   have h4:=h.el k
   rw[getD_at' hk2]at h4
   simpa using h4
  | i+1=>simpa [E4.z]using Qi.zero W
 .obtain rfl:e=es[k]:=by simpa using he
  exact h.fq _ (List.getElem_mem hk2)
 .have:=h.cap
  show 1<=c-k
  omega
 .have:=h.c63
  omega
def colR (x:List Rat)(k:Nat):List Rat:=[x.getD k 0]
theorem colR_cols (x:List Rat):∀n,colsN (colR x) n<=1:=fun _=>colsN_le fun _ _=>Nat.le_refl _
theorem colR_mv {x:List Rat}{m L n:Nat}(hq:∀i,Qm m (x.getD i 0))(hm:0<m)(hL:1<=L):Mv m L (colR x) n where
 q:=fun k _ j=>by
  match j with
  | 0=>exact hq k
  | j+1=>exact Qm.zero hm
 l:=fun k _=>hL
theorem col_eq (a:Nat->List Rat)(x:List Rat)(i:Nat):decide (lexQ (mulR a (colR x) x.length i) [dotQ (a i) x]=0)=true:=lexEq fun j=>by
 unfold mulR
 match j with
 | j+1 =>
  have h1:=colR_cols x x.length
  rw[tab_ge _ (by omega)]
  rfl
 | 0 =>
  show _=dotQ (a i) x
  rw[dot_el (a i) x (min (a i).length x.length) (Nat.le_refl _)]
  by_cases h:0<x.length
  .have h1:=colsN_ge (colR x) h
   rw[tab_getD _ (Nat.lt_of_lt_of_le (show 0<(colR x 0).length from Nat.one_pos) h1)]
   rfl
  .have h0:x.length=0:=by omega
   rw[h0,Nat.min_zero,tab_ge (N:=colsN (colR x) 0) (i:=0) _ (Nat.le_refl 0)]
   rfl
theorem dot_unitR (r:List Rat){n k:Nat}(hr:r.length<=n)(hn:n<=65536)(hk:k<n):dotQ r (unitQ (n:Int) (k:Int))=r.getD k 0:=by
 rw[dot_el r _ n (by omega)]
 have h:=sumF_pick (fun j=>r.getD j 0) k n
 rw[if_pos hk]at h
 rw[<-h]
 exact sumF_cong n fun j hj=>by
  rw[unitQ_in (by omega)]
  by_cases e:j=k
  .rw[if_pos (by omega),if_pos e.symm]
  .rw[if_neg (by omega),if_neg (fun e2=>e e2.symm)]
def catR (a:Nat->List Rat)(N:Nat)(b:Nat->List Rat)(M i:Nat):List Rat:=tab (colsN a N+colsN b M) (catF (rowL a N i) (rowL b M i) (colsN a N))
theorem cat_left (a b:Nat->List Rat)(N M n:Nat)(hn:colsN a N=n)(hN:n<=65536):eqM (fun i=>fitQ (rowL (catR a N b M) (max N M) i) (n:Int)) (max N M) a N=true:=eqM_of fun i j=>by
 by_cases hi:i<max N M
 .rw[el_in hi]
  by_cases hj:j<n
  .rw[fitQ_in (by omega)]
   unfold rowL
   rw[if_pos hi]
   unfold catR
   rw[tab_getD _ (by omega)]
   unfold catF
   rw[if_pos (by omega)]
   rfl
  .rw[getD_ge (by rw[fitQ_length];omega),el_cols (by omega)]
 .rw[el_out hi,el_out (by omega)]
theorem cat_cols (a b:Nat->List Rat)(N M:Nat):colsN (catR a N b M) (max N M)=if max N M=0 then 0 else colsN a N+colsN b M:=by
 have h1:∀i,(catR a N b M i).length=colsN a N+colsN b M:=fun i=>tab_length _ _
 split
 .rename_i h;rw[h];rfl
 .have h2:=colsN_ge (catR a N b M) (N:=max N M) (k:=0) (by omega)
  have h3:=colsN_le (rs:=catR a N b M) (M:=colsN a N+colsN b M) (N:=max N M) (fun k _=>Nat.le_of_eq (h1 k))
  rw[h1]at h2
  omega
theorem cat_mv {a b:Nat->List Rat}{m L L' N M K:Nat}(ha:Mv m L a N)(hb:Mv m L' b M)(hm:0<m)(hK:L+L'<=K):Mv m K (catR a N b M) (max N M) where
 q:=fun i _ j=>tab_qm (fun j _=>by
  unfold catF
  have h1:∀j,Qm m ((rowL a N i).getD j 0):=fun j=>by
   unfold rowL
   split
   .rename_i h;exact ha.q i h j
   .exact Qm.zero hm
  have h2:∀j,Qm m ((rowL b M i).getD j 0):=fun j=>by
   unfold rowL
   split
   .rename_i h;exact hb.q i h j
   .exact Qm.zero hm
  split
  .exact h1 _
  .exact h2 _) hm j
 l:=fun i _=>by
  unfold catR
  rw[tab_length]
  have h1:=colsN_le ha.l
  have h2:=colsN_le hb.l
  omega
theorem cat_x {w:World}{P Q:Option Addr}{N C M D m L L':Nat}{a b:Nat->List Rat}(hA:Mx w P N C a m L)(hB:Mx w Q M D b m L')(K:Nat)(hm:0<m)(hm2:m<=10000)(hN:N<=100)(hM:M<=100)(hL:L<=100)(hL':L'<=100)(hK:L+L'<=K) :
  Calls Tryz.prog 35 #[.slice P N C,.slice Q M D] w (fun e w'=>∃P N' C,e=.returned (.slice P N' C)/\Hid (N'=max N M)/\Mx w' P N' C (catR a N b M) m K/\Below w.heap.size w w') :=
 (cat_m hA.mi hB.mi hm2 (by omega) (by omega) (fun k hk=>by have:=hA.mv.l k hk;omega) (fun k hk=>by have:=hB.mv.l k hk;omega)).mono fun _ _ h=>by
  obtain ⟨P,C,e1,h1,h2⟩:=MR.xr h (cat_mv hA.mv hB.mv hm hK) hm2
  exact ⟨P,_,C,e1,rfl,h1,h2⟩
theorem resize_x {w:World}{P:Option Addr}{N C m L R n:Nat}{rs:Nat->List Rat}(hA:Mx w P N C rs m L)(hm:0<m)(hm2:m<=10000)(hN:N<=100)(hL:L<=100)(hR:R<=1024)(hn:n<=1024) :
  Calls Tryz.prog 21 #[.slice P N C,.int .i64 (R:Int),.int .i64 (n:Int)] w (XR w R (fun i=>fitQ (rowL rs N i) (n:Int)) m n) :=
 (resize_m (R:=R) (L:=n) hA.mi hm2 (fun k hk=>by have:=hA.mv.l k hk;omega) (by omega) (by omega)).mono fun _ _ h=>MR.xr h ⟨fun k _ j=>by
  by_cases hj:j<n
  .rw[fitQ_in (by omega)]
   unfold rowL
   split
   .rename_i h;exact hA.mv.q k h j
   .exact Qm.zero hm
  .rw[getD_ge (by rw[fitQ_length];omega)]
   exact Qm.zero hm,fun k _=>by rw[fitQ_length];omega⟩ hm2
theorem unit_x {w:World}{n k L:Nat}(hn:n<=100)(hk:k<n)(hL:n<=L):Calls Tryz.prog 47 #[.int .i64 (n:Int),.int .i64 (k:Int)] w (YR w (unitQ (n:Int) (k:Int)) 1 L) :=
 (vunit_v (w:=w) (n:=(n:Int)) (k:=(k:Int)) (by omega)).mono fun _ _ h=>VR.yr h (fun i=>(Mv.id (n:=n) (by omega)).q k hk i) (by rw[unitQ_length];omega) (by decide)
theorem at_x {w:World}{P:Option Addr}{N C m L i j:Nat}{rs:Nat->List Rat}(hA:Mx w P N C rs m L)(hm:0<m)(hm2:m<=10000)(hL:L<=100)(hi:i<N) :
  Calls Tryz.prog 16 #[.slice P N C,.int .i64 (i:Int),.int .i64 (j:Int)] w (fun e w'=>∃x y z t r,e=.returned (.agg #[x,y,z,t])/\Hid (r=(rs i).getD j 0)/\Qi w' x y z t r m/\Below w.heap.size w w') :=
 (at_m hA.mi hm2 hi (by have:=hA.mv.l i hi;omega)).mono fun _ _ h=>by
  obtain ⟨x,y,z,t,e,hq,hb⟩:=h
  exact ⟨x,y,z,t,_,e,rfl,hq.qi (hA.mv.q i hi j) hm2,hb⟩
end Go.Proofs.YtglhdielkkhefaaGreat
