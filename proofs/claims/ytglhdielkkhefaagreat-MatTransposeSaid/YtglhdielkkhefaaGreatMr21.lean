/- Parts: 11. -/
import Derived.Test.YtglhdielkkhefaaGreatMr5
import Derived.Test.YtglhdielkkhefaaGreatMr12
import Derived.Test.YtglhdielkkhefaaGreatMr17
import Derived.Test.YtglhdielkkhefaaGreatMr18
import Derived.Test.YtglhdielkkhefaaGreatMr20
import Derived.Below
import Derived.ChangeOld
import Derived.Deep.Slices
import Derived.Lib.SmallJoins
import Derived.OpenShut
import Derived.ProofKit
import Derived.ShutString
import Derived.WalkKit
set_option linter.unusedVariables false
set_option linter.unusedSimpArgs false
set_option maxRecDepth 100000
set_option maxHeartbeats 40000000

namespace Go.Proofs.YtglhdielkkhefaaGreat
open Go.RowKit Go.Shelf
def el (rs:Nat->List Rat)(N i j:Nat):Rat:=(rowL rs N i).getD j 0
theorem el_in {rs:Nat->List Rat}{N i j:Nat}(h:i<N):el rs N i j=(rs i).getD j 0:=by unfold el rowL;rw[if_pos h]
theorem el_out {rs:Nat->List Rat}{N i j:Nat}(h:¬i<N):el rs N i j=0:=by unfold el rowL;rw[if_neg h];exact getD_ge (Nat.zero_le _)
theorem el_cols {rs:Nat->List Rat}{N i j:Nat}(h:colsN rs N<=j):el rs N i j=0:=getD_ge (Nat.le_trans (rowL_cols rs N i) h)
theorem eqM_of {rs ss:Nat->List Rat}{N M:Nat}(h:∀i j,el rs N i j=el ss M i j):eqM rs N ss M=true:=List.all_eq_true.2 fun i _=>lexEq (fun j=>h i j)
theorem sumF_cong {f g:Nat->Rat} : ∀k,(∀i,i<k->f i=g i)->sumF f k=sumF g k
 | 0,_=>rfl
 | k+1,h=>by
  show sumF f k+f k=sumF g k+g k
  rw[sumF_cong k (fun i hi=>h i (by omega)),h k (by omega)]
theorem sumF_to {f:Nat->Rat}{n K:Nat}(hz:∀k,n<=k->f k=0)(hK:n<=K):sumF f n=sumF f K:=by
 have h:=sumF_pad f n hz (K-n)
 rw[show n+(K-n)=K by omega]at h
 exact h.symm
theorem sumF_nil : ∀k,sumF (fun _=>0) k=0
 | 0=>rfl
 | k+1=>by
  show sumF (fun _=>0) k+0=0
  rw[sumF_nil k,Rat.add_zero]
theorem sumF_mul (c:Rat)(f:Nat->Rat):∀k,sumF (fun i=>c*f i) k=c*sumF f k
 | 0=>(Rat.mul_zero c).symm
 | k+1=>by
  show sumF (fun i=>c*f i) k+c*f k=c*(sumF f k+f k)
  rw[sumF_mul c f k,Rat.mul_add]
theorem sumF_plus (f g:Nat->Rat):∀k,sumF (fun i=>f i+g i) k=sumF f k+sumF g k
 | 0=>(Rat.add_zero 0).symm
 | k+1=>by
  show sumF (fun i=>f i+g i) k+(f k+g k)=(sumF f k+f k)+(sumF g k+g k)
  rw[sumF_plus f g k]
  rw[Rat.add_assoc,Rat.add_assoc,<-Rat.add_assoc (sumF g k),Rat.add_comm (sumF g k) (f k),Rat.add_assoc (f k)]
theorem sumF_swap (f:Nat->Nat->Rat)(n:Nat):∀m,sumF (fun i=>sumF (f i) n) m=sumF (fun j=>sumF (fun i=>f i j) m) n
 | 0=>(sumF_nil n).symm
 | m+1=>by
  show sumF (fun i=>sumF (f i) n) m+sumF (f m) n=sumF (fun j=>sumF (fun i=>f i j) m+f m j) n
  rw[sumF_swap f n m,sumF_plus]
theorem el_turn (rs:Nat->List Rat)(N i j:Nat):el (fun i=>tab N (fun k=>(rs k).getD i 0)) (colsN rs N) i j=el rs N j i:=by
 by_cases hi:i<colsN rs N
 .rw[el_in hi]
  by_cases hj:j<N
  .rw[el_in hj,tab_getD _ hj]
  .rw[el_out hj,tab_ge _ (by omega)]
 .rw[el_out hi,el_cols (by omega)]
theorem rowMul_el (ys:List Rat)(rs:Nat->List Rat)(N j K:Nat)(hK:min ys.length N<=K):rowMul ys rs N j=sumF (fun k=>ys.getD k 0*el rs N k j) K:=by
 rw[<-sumF_to (n:=min ys.length N) (fun k hk=>?_) hK]
 .exact sumF_cong _ fun i hi=>by rw[el_in (by omega)]
 .by_cases h:k<N
  .rw[getD_ge (l:=ys) (by omega),Rat.zero_mul]
  .rw[el_out h,Rat.mul_zero]
theorem dot_el (us bs:List Rat)(K:Nat)(hK:min us.length bs.length<=K):dotQ us bs=sumF (fun k=>us.getD k 0*bs.getD k 0) K:=by
 have hz:∀k,min us.length bs.length<=k->us.getD k 0*bs.getD k 0=0:=fun k hk=>by
  by_cases h:k<us.length
  .rw[getD_ge (l:=bs) (by omega),Rat.mul_zero]
  .rw[getD_ge (l:=us) (by omega),Rat.zero_mul]
 unfold dotQ
 rw[<-sumF_to (n:=min us.length bs.length) hz hK,<-sumF_to (n:=min us.length bs.length) hz (by omega)]
theorem el_mul (rs ss:Nat->List Rat)(N M i j K:Nat)(hK:M<=K):el (fun i=>tab (colsN ss M) (rowMul (rs i) ss M)) N i j=sumF (fun k=>el rs N i k*el ss M k j) K:=by
 by_cases hi:i<N
 .rw[el_in hi]
  by_cases hj:j<colsN ss M
  .rw[tab_getD _ hj,rowMul_el _ _ _ _ K (by omega)]
   exact sumF_cong _ fun k _=>by rw[el_in hi]
  .rw[tab_ge _ (by omega)]
   rw[sumF_cong (g:=fun _=>0) K (fun k _=>by rw[el_cols (rs:=ss) (by omega),Rat.mul_zero]),sumF_nil]
 .rw[el_out hi]
  rw[sumF_cong (g:=fun _=>0) K (fun k _=>by rw[el_out hi,Rat.zero_mul]),sumF_nil]
theorem el_add (rs ss:Nat->List Rat)(N M i j:Nat):el (fun i=>ptw (fun r s=>r+s) (rowL rs N i) (rowL ss M i)) (max N M) i j=el rs N i j+el ss M i j:=by
 by_cases hi:i<max N M
 .rw[el_in hi,ptw_getD (by decide +kernel)]
  rfl
 .rw[el_out hi,el_out (by omega),el_out (by omega),Rat.add_zero]
theorem assoc_el (a b c:Nat->Nat->Rat)(K L:Nat)(i j:Nat):sumF (fun k=>sumF (fun l=>a i l*b l k) L*c k j) K=sumF (fun l=>a i l*sumF (fun k=>b l k*c k j) K) L:=by
 have e1:∀k,sumF (fun l=>a i l*b l k) L*c k j=sumF (fun l=>a i l*(b l k*c k j)) L:=fun k=>by
  rw[Rat.mul_comm,<-sumF_mul]
  exact sumF_cong _ fun l _=>by rw[Rat.mul_comm,Rat.mul_assoc]
 rw[sumF_cong (g:=fun k=>sumF (fun l=>a i l*(b l k*c k j)) L) K (fun k _=>e1 k),sumF_swap (fun k l=>a i l*(b l k*c k j)) L K]
 exact sumF_cong _ fun l _=>sumF_mul (a i l) (fun k=>b l k*c k j) K
theorem allowed_z {w:World}{n:Int}{N:Nat}(h:min (max n 0) 1024=(N:Int)) :
  Calls Tryz.prog 60 #[.int .i64 n] w fun e w'=>e=.returned (.int .i64 (N:Int))/\Below w.heap.size w w':=by
 obtain ⟨x,hx⟩:∃x,max n 0=x:=⟨_,rfl⟩
 rw[hx]at h
 go_enter Tryz.func60,Tryz.ntmps60
 go_wp2
 go_ret
 exact ⟨rfl,Below.refl _ _⟩
theorem ident1_m {w:World}{g N i:Nat}(hg:w.cell? ⟨g,0,none⟩=some (.int .i64 (N:Int)))(hN:N<=1024) :
  Calls Tryz.prog 69 #[.int .i64 (i:Int),.pointer (some ⟨g,0,none⟩)] w (VR w (unitQ (N:Int) (i:Int))):=by
 have HC:=Hd (vunit_v (w:=w) (n:=(N:Int)) (k:=(i:Int)) (by omega))
 go_enter Tryz.func69,Tryz.ntmps69
 go_wp2_with fail
 refine HC.out.mono ?_
 rintro e V ⟨A1,c1,fl,rfl,hv,bb⟩
 have HB:=Hd bb
 clear bb hg
 go_wp2
 go_ret
 exact ⟨A1,c1,fl,rfl,hv,HB.out⟩
theorem ident_m {w:World}{n:Int}{N:Nat}(h:min (max n 0) 1024=(N:Int)) :
  Calls Tryz.prog 25 #[.int .i64 n] w (MR w N (fun i=>unitQ (N:Int) (i:Int))):=by
 have hN:N<=1024:=by omega
 have HC:=Hd (allowed_z (w:=w) h)
 have HF:=Hd (fun (V:World) (g:Nat) (hg:Hp V g (.cells #[.int .i64 (N:Int)] 3 (0,0)))=>fill_m (w:=V) (N:=N) (F:=69) (caps:=#[.pointer (some ⟨g,0,none⟩)]) (rs:=fun i=>unitQ (N:Int) (i:Int)) (by omega) (callf_enter Tryz.func69 (by kernel_rfl) (by kernel_rfl)) (fun U hU i hi=>ident1_m (hg.to hU).one hN))
 clear h hN
 go_enter Tryz.func25,Tryz.ntmps25
 go_wp2_with fail
 refine HC.out.mono ?_
 rintro e V ⟨rfl,bb⟩
 have h3:=Hp.new V #[.int .i64 (N:Int)] 3
 have bb1:Below V.heap.size V (V.alloc (.cells #[.int .i64 (N:Int)] 3)):=(Below.refl _ _).alloc (Nat.le_refl _) _
 have HFV:=Hd (HF.out _ _ h3)
 have q0:=h3.one
 have HB:=Hd (Bxb bb bb1)
 clear HF bb bb1 h3 HC
 go_wp2_with fail
 refine HFV.out.mono ?_
 rintro e X ⟨P2,C2,rfl,hm2,b2⟩
 have HE:=Hxb HB b2
 clear b2 q0
 go_wp2
 go_ret
 exact ⟨P2,C2,rfl,hm2,HE.out⟩
def mulR (rs ss:Nat->List Rat)(M:Nat)(i:Nat):List Rat:=tab (colsN ss M) (rowMul (rs i) ss M)
def addR (rs:Nat->List Rat)(N:Nat)(ss:Nat->List Rat)(M:Nat)(i:Nat):List Rat:=ptw (fun r s=>r+s) (rowL rs N i) (rowL ss M i)
def idR (n:Nat)(i:Nat):List Rat:=unitQ (n:Int) (i:Int)
theorem el_mulR (rs ss:Nat->List Rat)(N M i j K:Nat)(hK:M<=K):el (mulR rs ss M) N i j=sumF (fun k=>el rs N i k*el ss M k j) K:=el_mul rs ss N M i j K hK
theorem el_addR (rs ss:Nat->List Rat)(N M i j:Nat):el (addR rs N ss M) (max N M) i j=el rs N i j+el ss M i j:=el_add rs ss N M i j
theorem ring_1 (a b c:Nat->List Rat)(Na Nb Nc:Nat):eqM (mulR (mulR a b Nb) c Nc) Na (mulR a (mulR b c Nc) Nb) Na=true:=eqM_of fun i j=>by
 rw[el_mulR _ _ _ _ _ _ Nc (Nat.le_refl _),el_mulR _ _ _ _ _ _ Nb (Nat.le_refl _)]
 rw[sumF_cong (g:=fun k=>sumF (fun l=>el a Na i l*el b Nb l k) Nb*el c Nc k j) Nc (fun k _=>by rw[el_mulR _ _ _ _ _ _ Nb (Nat.le_refl _)])]
 rw[sumF_cong (g:=fun l=>el a Na i l*sumF (fun k=>el b Nb l k*el c Nc k j) Nc) Nb (fun l _=>by rw[el_mulR _ _ _ _ _ _ Nc (Nat.le_refl _)])]
 exact assoc_el (fun i l=>el a Na i l) (fun l k=>el b Nb l k) (fun k j=>el c Nc k j) Nc Nb i j
theorem ring_2 (a b c:Nat->List Rat)(Na Nb Nc:Nat):eqM (mulR a (addR b Nb c Nc) (max Nb Nc)) Na (addR (mulR a b Nb) Na (mulR a c Nc) Na) (max Na Na)=true:=eqM_of fun i j=>by
 rw[el_addR,el_mulR _ _ _ _ _ _ (max Nb Nc) (Nat.le_refl _),el_mulR _ _ _ _ _ _ (max Nb Nc) (Nat.le_max_left _ _),el_mulR _ _ _ _ _ _ (max Nb Nc) (Nat.le_max_right _ _),<-sumF_plus]
 exact sumF_cong _ fun k _=>by rw[el_addR,Rat.mul_add]
theorem ring_3 (a b c:Nat->List Rat)(Na Nb Nc:Nat):eqM (mulR (addR a Na b Nb) c Nc) (max Na Nb) (addR (mulR a c Nc) Na (mulR b c Nc) Nb) (max Na Nb)=true:=eqM_of fun i j=>by
 rw[el_addR,el_mulR _ _ _ _ _ _ Nc (Nat.le_refl _),el_mulR _ _ _ _ _ _ Nc (Nat.le_refl _),el_mulR _ _ _ _ _ _ Nc (Nat.le_refl _),<-sumF_plus]
 exact sumF_cong _ fun k _=>by rw[el_addR,Rat.add_mul]
theorem ring_6 (a b:Nat->List Rat)(Na Nb:Nat):eqM (addR a Na b Nb) (max Na Nb) (addR b Nb a Na) (max Nb Na)=true:=eqM_of fun i j=>by
 rw[el_addR,el_addR,Rat.add_comm]
theorem turn_turn (a:Nat->List Rat)(N:Nat):eqM (fun i=>tab (colsN a N) (fun k=>(tab N (fun q=>(a q).getD k 0)).getD i 0)) (colsN (fun i=>tab N (fun q=>(a q).getD i 0)) (colsN a N)) a N=true:=eqM_of fun i j=>by
 rw[el_turn (fun i=>tab N (fun q=>(a q).getD i 0)) (colsN a N) i j,el_turn]
theorem el_id {n:Nat}(hn:n<=65536)(i j:Nat):el (idR n) n i j=if i<n/\j=i then 1 else 0:=by
 by_cases hi:i<n
 .rw[el_in hi]
  unfold idR
  by_cases hj:j<n
  .rw[unitQ_in (by omega)]
   by_cases e:j=i
   .rw[if_pos (by omega),if_pos ⟨hi,e⟩]
   .rw[if_neg (by omega),if_neg (by omega)]
  .rw[getD_ge (by rw[unitQ_length];omega),if_neg (by omega)]
 .rw[el_out hi,if_neg (by omega)]
theorem sumF_pick (f:Nat->Rat)(j:Nat):∀n,sumF (fun k=>f k*(if j=k then 1 else 0)) n=if j<n then f j else 0
 | 0=>by rw[if_neg (by omega)];rfl
 | n+1=>by
  show sumF (fun k=>f k*(if j=k then 1 else 0)) n+f n*(if j=n then 1 else 0)=_
  rw[sumF_pick f j n]
  by_cases h:j=n
  .subst h
   rw[if_neg (by omega),if_pos rfl,if_pos (by omega),Rat.mul_one,Rat.zero_add]
  .rw[if_neg h,Rat.mul_zero,Rat.add_zero]
   by_cases h2:j<n
   .rw[if_pos h2,if_pos (by omega)]
   .rw[if_neg h2,if_neg (by omega)]
theorem ring_4 (a:Nat->List Rat)(N:Nat)(hn:colsN a N<=65536):eqM (mulR a (idR (colsN a N)) (colsN a N)) N a N=true:=eqM_of fun i j=>by
 rw[el_mulR _ _ _ _ _ _ (colsN a N) (Nat.le_refl _)]
 rw[sumF_cong (g:=fun k=>el a N i k*(if j=k then 1 else 0)) _ (fun k hk=>by rw[el_id hn];congr 1;simp only[hk,true_and]),sumF_pick (fun k=>el a N i k)]
 by_cases h:j<colsN a N
 .rw[if_pos h]
 .rw[if_neg h,el_cols (by omega)]
theorem ring_5 (a:Nat->List Rat)(N:Nat)(hn:N<=65536):eqM (mulR (idR N) a N) N a N=true:=eqM_of fun i j=>by
 rw[el_mulR _ _ _ _ _ _ N (Nat.le_refl _)]
 by_cases h:i<N
 .rw[sumF_cong (g:=fun k=>el a N k j*(if i=k then 1 else 0)) _ (fun k hk=>by
   rw[el_id hn,Rat.mul_comm]
   congr 1
   by_cases e:k=i
   .rw[if_pos ⟨h,e⟩,if_pos e.symm]
   .rw[if_neg (by omega),if_neg (fun e2=>e e2.symm)]),sumF_pick (fun k=>el a N k j),if_pos h]
 .rw[el_out (rs:=a) h,sumF_cong (g:=fun _=>0) _ (fun k hk=>by rw[el_out h,Rat.zero_mul]),sumF_nil]
structure Mv (m L:Nat)(rs:Nat->List Rat)(N:Nat):Prop where
 q:∀k,k<N->∀j,Qm m ((rs k).getD j 0)
 l:∀k,k<N->(rs k).length<=L
theorem Mv.mul {m l L L' K N M:Nat}{rs ss:Nat->List Rat}(h:Mv m L rs N)(h':Mv l L' ss M)(hK:M<=K):Mv (K*(m+l+1)+1) L' (mulR rs ss M) N where
 q:=fun k hk j=>by
  unfold mulR
  by_cases hj:j<colsN ss M
  .rw[tab_getD _ hj]
   have h1:rowMul (rs k) ss M j=sumF (fun i=>if i<M then (rs k).getD i 0*(ss i).getD j 0 else 0) (min (rs k).length M):=sumF_cong _ fun i hi=>by rw[if_pos (by omega)]
   have h2:∀i,Qm (m+l) (if i<M then (rs k).getD i 0*(ss i).getD j 0 else 0):=fun i=>by
    by_cases hi:i<M
    .rw[if_pos hi];exact (h.q k hk i).mul (h'.q i hi j)
    .rw[if_neg hi];exact Qm.zero (by have:=(h.q k hk 0).pos;omega)
   rw[h1]
   have h3:=Nat.mul_le_mul_right (m+l+1) (show min (rs k).length M<=K by omega)
   exact (Qm.sumF h2 _).mono (by omega)
  .rw[tab_ge _ (by omega)]
   exact Qm.zero (by omega)
 l:=fun k _=>by unfold mulR;rw[tab_length];exact colsN_le h'.l
theorem Mv.add {m l L L' N M:Nat}{rs ss:Nat->List Rat}(h:Mv m L rs N)(h':Mv l L' ss M)(hm:0<m)(hl:0<l):Mv (m+l+1) (max L L') (addR rs N ss M) (max N M) where
 q:=fun k _ j=>by
  unfold addR
  rw[ptw_getD (by decide +kernel)]
  have h1:Qm m ((rowL rs N k).getD j 0):=by
   unfold rowL
   split
   .rename_i hk;exact h.q k hk j
   .rw[getD_ge (Nat.zero_le _)];exact Qm.zero hm
  have h2:Qm l ((rowL ss M k).getD j 0):=by
   unfold rowL
   split
   .rename_i hk;exact h'.q k hk j
   .rw[getD_ge (Nat.zero_le _)];exact Qm.zero hl
  exact h1.add h2
 l:=fun k _=>by
  unfold addR
  rw[ptw_length]
  have h1:=rowL_le h.l k
  have h2:=rowL_le h'.l k
  omega
structure Mx (W:World)(P:Option Addr)(N C:Nat)(rs:Nat->List Rat)(m L:Nat):Prop where
 mi:Mi W P N C rs m
 mv:Mv m L rs N
theorem Mx.to {W V:World}{P:Option Addr}{N C m L:Nat}{rs:Nat->List Rat}(h:Mx W P N C rs m L)(hb:Below W.heap.size W V):Mx V P N C rs m L:=⟨h.mi.to hb,h.mv⟩
def XR (w:World)(N:Nat)(rs:Nat->List Rat)(m L:Nat)(e:Ending)(w':World):Prop:=∃P C,e=.returned (.slice P N C)/\Mx w' P N C rs m L/\Below w.heap.size w w'
theorem MR.xr {w:World}{N m L:Nat}{rs:Nat->List Rat}{e:Ending}{w':World}(h:MR w N rs e w')(hv:Mv m L rs N)(hm:m<=10000):XR w N rs m L e w':=by
 obtain ⟨P,C,rfl,h1,h2⟩:=h
 exact ⟨P,C,rfl,⟨h1.mi hm hv.q,hv⟩,h2⟩
theorem mul_x {w:World}{P Q:Option Addr}{N C M D m l L L':Nat}{rs ss:Nat->List Rat}(hA:Mx w P N C rs m L)(hB:Mx w Q M D ss l L')(K:Nat)(hK:M<=K)(hm:0<m)(hl:0<l)(hN:N<=100)(hL:L<=100)(hL':L'<=100)(hb:K*(m+l+1)+1+(m+l)+1<=10000)(hK2:K<=100) :
  Calls Tryz.prog 29 #[.slice P N C,.slice Q M D] w (XR w N (mulR rs ss M) (K*(m+l+1)+1) L') :=
 (mul_m hA.mi hB.mi hm hl (by omega) (by omega) (fun k hk=>by have:=hA.mv.l k hk;omega) (fun k hk=>by have:=hB.mv.l k hk;omega) (fun i hi=>by
  have h3:=Nat.mul_le_mul_right (m+l+1) (show min (rs i).length M<=K by omega)
  omega)).mono fun _ _ h=>MR.xr h (hA.mv.mul hB.mv hK) (by omega)
theorem add_x {w:World}{P Q:Option Addr}{N C M D m l L L':Nat}{rs ss:Nat->List Rat}(hA:Mx w P N C rs m L)(hB:Mx w Q M D ss l L')(hm:0<m)(hl:0<l)(hN:N<=100)(hM:M<=100)(hL:L<=100)(hL':L'<=100)(hb:m+l+1<=10000) :
  Calls Tryz.prog 31 #[.slice P N C,.slice Q M D] w (fun e w'=>∃P N' C,e=.returned (.slice P N' C)/\Hid (N'=max N M)/\Mx w' P N' C (addR rs N ss M) (m+l+1) (max L L')/\Below w.heap.size w w') :=
 (addm_m hA.mi hB.mi hm hl hb (by omega) (by omega) (fun k hk=>by have:=hA.mv.l k hk;omega) (fun k hk=>by have:=hB.mv.l k hk;omega)).mono fun _ _ h=>by
  obtain ⟨P,C,e1,h1,h2⟩:=MR.xr h (hA.mv.add hB.mv hm hl) (by omega)
  exact ⟨P,_,C,e1,rfl,h1,h2⟩
theorem Mv.id {n:Nat}(hn:n<=1024):Mv 1 n (idR n) n where
 q:=fun k hk j=>by
  unfold idR
  by_cases hj:j<n
  .rw[unitQ_in (by omega)]
   split
   .exact (show Qm 1 (1:Rat) from by refine ⟨?_,?_⟩<;>(unfold Sm;decide))
   .exact Qm.zero (by decide)
  .rw[getD_ge (by rw[unitQ_length];omega)]
   exact Qm.zero (by decide)
 l:=fun k _=>by unfold idR;rw[unitQ_length];omega
theorem id_x {w:World}{n:Nat}(hn:n<=100):Calls Tryz.prog 25 #[.int .i64 (n:Int)] w (XR w n (idR n) 1 n) :=
 (ident_m (w:=w) (n:=(n:Int)) (N:=n) (by omega)).mono fun _ _ h=>MR.xr h (Mv.id (by omega)) (by decide)
theorem equal_x {w:World}{P Q:Option Addr}{N C M D m l L L':Nat}{rs ss:Nat->List Rat}(hA:Mx w P N C rs m L)(hB:Mx w Q M D ss l L')(hm:0<m)(hl:0<l)(hN:N<=100)(hM:M<=100)(hL:L<=100)(hL':L'<=100)(hb:m+l<=10000)(hv:eqM rs N ss M=true) :
  Calls Tryz.prog 18 #[.slice P N C,.slice Q M D] w fun e w'=>e=.returned (.bool true)/\Below w.heap.size w w' :=
 mequal_m hA.mi hB.mi hm hl hb (by omega) (by omega) (fun k hk=>by have:=hA.mv.l k hk;omega) (fun k hk=>by have:=hB.mv.l k hk;omega) hv
theorem cols_x {w:World}{P:Option Addr}{N C m L:Nat}{rs:Nat->List Rat}(hA:Mx w P N C rs m L)(hN:N<=100)(hL:L<=100) :
  Calls Tryz.prog 13 #[.slice P N C] w fun e w'=>e=.returned (.int .i64 (colsN rs N))/\Below w.heap.size w w' :=
 cols_m hA.mi.rs (by omega) (fun k hk=>by have:=hA.mv.l k hk;omega)
end Go.Proofs.YtglhdielkkhefaaGreat

namespace Go.Proofs.YtglhdielkkhefaaGreat
open Go.ChangeShapes Go.WideShapes Go.ChangeAt Go.RowKit Go.Joins
theorem cellsZ : Tryz.prog.cellsOf 30=2:=by kernel_rfl
theorem cellsU : Tryz.prog.cellsOf 89=1:=by kernel_rfl
theorem laidOut : laidOutB Tryz.prog=true:=by kernel_rfl
theorem own : ownKnob Tryz.prog.godebug=none:=by kernel_rfl
theorem nats_of {zs:List Int}(h:∀n∈zs,(Lit.int .u32 n).wf=true):∃xs:List Nat,zs=xs.map (fun n:Nat=>(n:Int))/\Dg b32 xs:=by
 induction zs with
 | nil=>exact ⟨[],rfl,fun d hd=>by cases hd⟩
 | cons z zs ih =>
  obtain ⟨xs,rfl,hx⟩:=ih (fun n hn=>h n (List.mem_cons_of_mem _ hn))
  have hz:=h z List.mem_cons_self
  have hz':=bounds_u32 hz
  exact ⟨z.toNat::xs,by simp;omega,Dg.cons (by unfold b32;omega) hx⟩
theorem cellsB : Tryz.prog.cellsOf 4=1:=by kernel_rfl
theorem cellsS : Tryz.prog.cellsOf 28=1:=by kernel_rfl
theorem cellsQ : Tryz.prog.cellsOf 32=4:=by kernel_rfl
def Zx2 (W:World)(x y:Value):Prop:=∃n A c xs,x=.bool n/\y=.slice A xs.length c/\Rd .u32 W W.heap.size A xs/\Dg b32 xs/\xs.length<=c/\c<=9223372036854775807
theorem trod_z {H:Type}{enc:TypeId×Value->H}{W:World}{base:Nat}{spare:Nat->Bool}{held:Bool}{fuel:Nat}{c0 c1:Value}{x:DataW H×List MemPlace}
  (hs:∀b,spare b=true) (h:DataW.trod enc Tryz.prog W base spare held fuel 30 [c0,c1]=some x):Zx2 W c0 c1:=by
 obtain ⟨y0,y1,m,hx,_,h0,h1⟩:=trod_struct2 (f0:=_) (f1:=_) (show Tryz.prog.underlying 30=_ from Tryz.underlying30) h
 replace h0:DataW.trod enc Tryz.prog W base spare held m 4 [c0]=some y0:=by
  rw[show Tryz.prog.cellsOf _=1 from cellsB]at h0
  simpa using h0
 replace h1:DataW.trod enc Tryz.prog W base spare held m 28 [c1]=some y1:=by
  rw[show Tryz.prog.cellsOf _=1 from cellsS]at h1
  simpa using h1
 obtain ⟨n,hc0,_⟩:=DataW.trod_bool Tryz.underlying4 h0
 obtain rfl:c0=.bool n:=by simpa using hc0
 rcases open_ints Tryz.underlying28 Tryz.underlying89 cellsU h1 with ⟨hcs,_⟩|⟨x,l,c,zs,hcs,_,hl,hm,hz,_,hcell,hwz⟩
 .obtain rfl:c1=.slice none 0 0:=by simpa using hcs
  exact ⟨n,none,0,[],rfl,rfl,Rd.nil,Dg.nil,Nat.le_refl _,by decide⟩
 .obtain rfl:c1=.slice (some x) l c:=by simpa using hcs
  rw[hs,if_pos rfl]at hz
  obtain ⟨xs,rfl,hx⟩:=nats_of hwz
  rw[List.length_map]at hz
  have hlen:(xs.take l).length=l:=by rw[List.length_take];omega
  refine ⟨n,some x,c,xs.take l,rfl,by rw[hlen],?_,hx.take l,by rw[hlen];exact hl,Nat.le_trans hm (by decide)⟩
  intro k hk
  rw[hlen]at hk
  obtain ⟨b,off,rfl,hc⟩:=Go.ints_at hcell (by rw[List.length_map];omega)
  have hck:=hc k (by rw[List.length_map];omega)
  refine ⟨b,off,rfl,World.block_lt_of_cell? W _ hck,?_⟩
  rw[hck]
  have hk':k<xs.length:=by omega
  simp[hk']
theorem trod_q {H:Type}{enc:TypeId×Value->H}{W:World}{base:Nat}{spare:Nat->Bool}{held:Bool}{fuel:Nat}{c0 c1 c2 c3:Value}{x:DataW H×List MemPlace}
  (hs:∀b,spare b=true) (h:DataW.trod enc Tryz.prog W base spare held fuel 32 [c0,c1,c2,c3]=some x):Zx2 W c0 c1/\Zx2 W c2 c3:=by
 obtain ⟨y0,y1,m,hx,_,h0,h1⟩:=trod_struct2 (f0:=_) (f1:=_) (show Tryz.prog.underlying 32=_ from Tryz.underlying32) h
 replace h0:DataW.trod enc Tryz.prog W base spare held m 30 [c0,c1]=some y0:=by
  rw[show Tryz.prog.cellsOf _=2 from cellsZ]at h0
  simpa using h0
 replace h1:DataW.trod enc Tryz.prog W base spare held m 30 [c2,c3]=some y1:=by
  rw[show Tryz.prog.cellsOf _=2 from cellsZ]at h1
  simpa using h1
 exact ⟨trod_z hs h0,trod_z hs h1⟩
end Go.Proofs.YtglhdielkkhefaaGreat

namespace Go.Proofs.YtglhdielkkhefaaGreat
open Go.RowKit Go.Shelf
theorem flong_o (g o:Nat)(A:Option Addr)(ls:List (Nat×Nat))(cap:Nat)(w:World)(hA:∀(k:Nat),k<ls.length->A=some ⟨g,o,none⟩/\g<w.heap.size)
  (h:∀(k:Nat) (hk:k<ls.length),∃n1 A1 c1 n2 A2 c2,w.cell? ⟨g,o+k*4,none⟩=some (.bool n1)/\w.cell? ⟨g,o+k*4+1,none⟩=some (.slice A1 ls[k].1 c1)/\w.cell? ⟨g,o+k*4+2,none⟩=some (.bool n2)/\w.cell? ⟨g,o+k*4+3,none⟩=some (.slice A2 ls[k].2 c2))
  (hs:∀(k:Nat) (hk:k<ls.length),ls[k].1<=9223372036854775807/\ls[k].2<=9223372036854775807) (hl:ls.length<=1000) {r:Bool} (hr:(ls.any fun p=>decide (6<p.1)||decide (6<p.2))=r) :
  Calls Tryz.prog 28 #[.slice A ls.length cap] w fun e w'=>e=.returned (.bool r)/\Below w.heap.size w w':=by
 have H:=Hd h
 have HS:=Hd hs
 have HA:=Hd hA
 have HR:=Hd hr
 clear h hs hA hr
 go_enter Tryz.func28,Tryz.ntmps28
 go_wp2
 go_loopw [3] (fun i wr=>∃k:Nat,i=.int .i64 k/\k<=ls.length/\(∀j (hj:j<ls.length),j<k->ls[j].1<=6/\ls[j].2<=6)/\Below w.heap.size w wr) (fun i _=>ls.length-(intOf i).toNat)
 case atStart=>exact ⟨0,rfl,Nat.zero_le _,(fun j _ hj=>by omega),Below.refl _ _⟩
 case round =>
  obtain ⟨k,rfl,hk,ht,hb⟩:=hrel
  have HT:=Hd ht
  have HB:=Hd hb
  clear ht hb
  by_cases hlt:k<ls.length
  .obtain ⟨rfl,hg⟩:=HA.out k hlt
   have HG:=Hd hg
   clear hg
   have hc:=H.out k hlt
   have hm:=HS.out k hlt
   have hki:(0:Int)<=(k:Int):=by omega
   have hki':(k:Int)<(ls.length:Int):=by omega
   have HN:Hid (ls[k]=ls[k]):=rfl
   obtain ⟨⟨m1,m2⟩,hn⟩:∃m,ls[k]=m:=⟨_,rfl⟩
   rw[hn]at hc hm
   have HN2:=Hd hn
   obtain ⟨n1,A1,c1,n2,A2,c2,hc⟩:=hc
   have HF:Hid (∀w',Below w.heap.size w w'->w'.cell? ⟨g,o+k*4,none⟩=some (.bool n1)/\w'.cell? ⟨g,o+k*4+1,none⟩=some (.slice A1 m1 c1)/\w'.cell? ⟨g,o+k*4+2,none⟩=some (.bool n2)/\w'.cell? ⟨g,o+k*4+3,none⟩=some (.slice A2 m2 c2)):=fun w' hS =>
    ⟨(hS.cell (p:=⟨g,o+k*4,none⟩) HG.out).trans hc.1,(hS.cell (p:=⟨g,o+k*4+1,none⟩) HG.out).trans hc.2.1,(hS.cell (p:=⟨g,o+k*4+2,none⟩) HG.out).trans hc.2.2.1,(hS.cell (p:=⟨g,o+k*4+3,none⟩) HG.out).trans hc.2.2.2⟩
   have M1:=Hd hm.1
   have M2:=Hd hm.2
   clear hc hm hn HN
   by_cases ha:12<m1∨12<m2
   .have HL:Hid ([m1,m2].any (fun n=>decide (12<n))=true):=by show _=_;simpa using ha
    have hany:Hid ((ls.any fun p=>decide (6<p.1)||decide (6<p.2))=true):=by
     show _=_
     rw[List.any_eq_true]
     exact ⟨ls[k],List.getElem_mem hlt,by rw[HN2.out];simp;omega⟩
    clear ha
    go_wp2_with fail
    refine wp_region_plan (S:=fun w'=>Below w.heap.size w w') [(0,true),(1,true),(2,true),(3,true),(4,true),(5,true),(6,true),(7,true),(8,true),(9,true),(10,false),(11,false),(12,true),(13,true),(14,true),(15,true),(16,true),(17,true),(18,true),(19,true),(20,true),(21,true),(22,true),(23,true),(24,true),(25,true),(26,true),(27,true),(28,true),(29,true),(30,true),(31,true)] (by kernel_rfl) (by kernel_rfl) HB.out.drew ?_
    have hb:=HB.out.drew
    iterate 10 (refine plan_take (v:=?_) rfl (by rfl) ?_ ?_;rotate_left;(focus (intro w' hS;obtain ⟨f0,f1,f2,f3⟩:=HF.out w' hS;go_simp;try with_reducible rfl));simp only[Act.put,List.setIfInBounds_toArray,List.set_cons_zero,List.set_cons_succ])
    refine plan_call rfl (by rfl) (fun K hK=>?_)
    go_simp
    have hnew:=(Four.new wr (.bool n1) (.slice A1 m1 c1) (.bool n2) (.slice A2 m2 c2) 30).to (Below.refl _ _).drew
    replace hb:=hb.alloc hb.size (.cells #[.bool n1,.slice A1 m1 c1,.bool n2,.slice A2 m2 c2] 30)
    refine hK.out _ _ hb ?_
    clear hK K
    refine plan_call rfl (by rfl) (fun K hK=>?_)
    go_simp
    refine (long_2 M1.out M2.out hnew.c1 hnew.c3 HL.out).mono ?_
    rintro e V ⟨rfl,rfl⟩
    refine hK.out _ _ hb ?_
    clear hK K hnew
    refine plan_take (v:=?_) rfl (by rfl) ?_ ?_;rotate_left;(focus (intro w' hS;go_simp;try with_reducible rfl));simp only[Act.put,List.setIfInBounds_toArray,List.set_cons_zero,List.set_cons_succ]
    iterate 8 (refine plan_skip rfl (by rfl) ?_;simp only[Act.put,List.setIfInBounds_toArray,List.set_cons_zero,List.set_cons_succ])
    iterate 2 (refine plan_take (v:=?_) rfl (by rfl) ?_ ?_;rotate_left;(focus (intro w' hS;go_simp;try with_reducible rfl));simp only[Act.put,List.setIfInBounds_toArray,List.set_cons_zero,List.set_cons_succ])
    iterate 8 (refine plan_skip rfl (by rfl) ?_;simp only[Act.put,List.setIfInBounds_toArray,List.set_cons_zero,List.set_cons_succ])
    refine plan_take (v:=?_) rfl (by rfl) ?_ ?_;rotate_left;(focus (intro w' hS;go_simp;try with_reducible rfl));simp only[Act.put,List.setIfInBounds_toArray,List.set_cons_zero,List.set_cons_succ]
    refine plan_done ?_
    have HE:=Hd hb
    clear hb HB
    go_wp2
    go_ret
    exact ⟨by rw[<-HR.out,hany.out];rfl,HE.out⟩
   .have HL:Hid ([m1,m2].any (fun n=>decide (12<n))=false):=by show _=_;simpa using ha
    by_cases hb6:6<m1
    .have hany:Hid ((ls.any fun p=>decide (6<p.1)||decide (6<p.2))=true):=by
      show _=_
      rw[List.any_eq_true]
      exact ⟨ls[k],List.getElem_mem hlt,by rw[HN2.out];simp;omega⟩
     clear ha
     have d1:decide ((6:Int)<(m1:Int))=true:=by simp;omega
     clear hb6
     go_wp2_with fail
     refine wp_region_plan (S:=fun w'=>Below w.heap.size w w') [(0,true),(1,true),(2,true),(3,true),(4,true),(5,true),(6,true),(7,true),(8,true),(9,true),(10,false),(11,false),(12,true),(13,true),(14,true),(15,true),(16,true),(17,true),(18,true),(19,true),(20,true),(21,true),(22,true),(23,true),(24,true),(25,true),(26,true),(27,true),(28,true),(29,true),(30,true),(31,true)] (by kernel_rfl) (by kernel_rfl) HB.out.drew ?_
     have hb:=HB.out.drew
     iterate 10 (refine plan_take (v:=?_) rfl (by rfl) ?_ ?_;rotate_left;(focus (intro w' hS;obtain ⟨f0,f1,f2,f3⟩:=HF.out w' hS;go_simp;try with_reducible rfl));simp only[Act.put,List.setIfInBounds_toArray,List.set_cons_zero,List.set_cons_succ])
     refine plan_call rfl (by rfl) (fun K hK=>?_)
     go_simp
     have hnew:=(Four.new wr (.bool n1) (.slice A1 m1 c1) (.bool n2) (.slice A2 m2 c2) 30).to (Below.refl _ _).drew
     replace hb:=hb.alloc hb.size (.cells #[.bool n1,.slice A1 m1 c1,.bool n2,.slice A2 m2 c2] 30)
     refine hK.out _ _ hb ?_
     clear hK K
     refine plan_call rfl (by rfl) (fun K hK=>?_)
     go_simp
     refine (long_2 M1.out M2.out hnew.c1 hnew.c3 HL.out).mono ?_
     rintro e V ⟨rfl,rfl⟩
     refine hK.out _ _ hb ?_
     clear hK K hnew
     iterate 3 (refine plan_take (v:=?_) rfl (by rfl) ?_ ?_;rotate_left;(focus (intro w' hS;go_simp;try with_reducible rfl));simp only[Act.put,List.setIfInBounds_toArray,List.set_cons_zero,List.set_cons_succ])
     iterate 4 (refine plan_take (v:=?_) rfl (by rfl) ?_ ?_;rotate_left;(focus (intro w' hS;obtain ⟨f0,f1,f2,f3⟩:=HF.out w' hS;go_simp;try with_reducible rfl));simp only[Act.put,List.setIfInBounds_toArray,List.set_cons_zero,List.set_cons_succ])
     iterate 4 (refine plan_take (v:=?_) rfl (by rfl) ?_ ?_;rotate_left;(focus (intro w' hS;go_simp;try with_reducible rfl));simp only[Act.put,List.setIfInBounds_toArray,List.set_cons_zero,List.set_cons_succ])
     iterate 8 (refine plan_skip rfl (by rfl) ?_;simp only[Act.put,List.setIfInBounds_toArray,List.set_cons_zero,List.set_cons_succ])
     refine plan_take (v:=?_) rfl (by rfl) ?_ ?_;rotate_left;(focus (intro w' hS;go_simp;try with_reducible rfl));simp only[Act.put,List.setIfInBounds_toArray,List.set_cons_zero,List.set_cons_succ]
     refine plan_done ?_
     have HE:=Hd hb
     clear hb HB
     go_wp2
     go_ret
     exact ⟨by rw[<-HR.out,hany.out];rfl,HE.out⟩
    .by_cases hc6:6<m2
     .have hany:Hid ((ls.any fun p=>decide (6<p.1)||decide (6<p.2))=true):=by
       show _=_
       rw[List.any_eq_true]
       exact ⟨ls[k],List.getElem_mem hlt,by rw[HN2.out];simp;omega⟩
      clear ha
      have d1:decide ((6:Int)<(m1:Int))=false:=by simp;omega
      have d2:decide ((6:Int)<(m2:Int))=true:=by simp;omega
      clear hb6 hc6
      go_wp2_with fail
      refine wp_region_plan (S:=fun w'=>Below w.heap.size w w') [(0,true),(1,true),(2,true),(3,true),(4,true),(5,true),(6,true),(7,true),(8,true),(9,true),(10,false),(11,false),(12,true),(13,true),(14,true),(15,true),(16,true),(17,true),(18,true),(19,true),(20,true),(21,true),(22,true),(23,true),(24,true),(25,true),(26,true),(27,true),(28,true),(29,true),(30,true),(31,true)] (by kernel_rfl) (by kernel_rfl) HB.out.drew ?_
      have hb:=HB.out.drew
      iterate 10 (refine plan_take (v:=?_) rfl (by rfl) ?_ ?_;rotate_left;(focus (intro w' hS;obtain ⟨f0,f1,f2,f3⟩:=HF.out w' hS;go_simp;try with_reducible rfl));simp only[Act.put,List.setIfInBounds_toArray,List.set_cons_zero,List.set_cons_succ])
      refine plan_call rfl (by rfl) (fun K hK=>?_)
      go_simp
      have hnew:=(Four.new wr (.bool n1) (.slice A1 m1 c1) (.bool n2) (.slice A2 m2 c2) 30).to (Below.refl _ _).drew
      replace hb:=hb.alloc hb.size (.cells #[.bool n1,.slice A1 m1 c1,.bool n2,.slice A2 m2 c2] 30)
      refine hK.out _ _ hb ?_
      clear hK K
      refine plan_call rfl (by rfl) (fun K hK=>?_)
      go_simp
      refine (long_2 M1.out M2.out hnew.c1 hnew.c3 HL.out).mono ?_
      rintro e V ⟨rfl,rfl⟩
      refine hK.out _ _ hb ?_
      clear hK K hnew
      iterate 3 (refine plan_take (v:=?_) rfl (by rfl) ?_ ?_;rotate_left;(focus (intro w' hS;go_simp;try with_reducible rfl));simp only[Act.put,List.setIfInBounds_toArray,List.set_cons_zero,List.set_cons_succ])
      iterate 4 (refine plan_take (v:=?_) rfl (by rfl) ?_ ?_;rotate_left;(focus (intro w' hS;obtain ⟨f0,f1,f2,f3⟩:=HF.out w' hS;go_simp;try with_reducible rfl));simp only[Act.put,List.setIfInBounds_toArray,List.set_cons_zero,List.set_cons_succ])
      iterate 6 (refine plan_take (v:=?_) rfl (by rfl) ?_ ?_;rotate_left;(focus (intro w' hS;go_simp;try with_reducible rfl));simp only[Act.put,List.setIfInBounds_toArray,List.set_cons_zero,List.set_cons_succ])
      iterate 4 (refine plan_take (v:=?_) rfl (by rfl) ?_ ?_;rotate_left;(focus (intro w' hS;obtain ⟨f0,f1,f2,f3⟩:=HF.out w' hS;go_simp;try with_reducible rfl));simp only[Act.put,List.setIfInBounds_toArray,List.set_cons_zero,List.set_cons_succ])
      iterate 3 (refine plan_take (v:=?_) rfl (by rfl) ?_ ?_;rotate_left;(focus (intro w' hS;go_simp;try with_reducible rfl));simp only[Act.put,List.setIfInBounds_toArray,List.set_cons_zero,List.set_cons_succ])
      refine plan_done ?_
      have HE:=Hd hb
      clear hb HB
      go_wp2
      go_ret
      exact ⟨by rw[<-HR.out,hany.out];rfl,HE.out⟩
     .have hok:Hid (m1<=6/\m2<=6):=by show _/\_;omega
      clear ha
      have d1:decide ((6:Int)<(m1:Int))=false:=by simp;omega
      have d2:decide ((6:Int)<(m2:Int))=false:=by simp;omega
      clear hb6 hc6
      go_wp2_with fail
      refine wp_region_plan (S:=fun w'=>Below w.heap.size w w') [(0,true),(1,true),(2,true),(3,true),(4,true),(5,true),(6,true),(7,true),(8,true),(9,true),(10,false),(11,false),(12,true),(13,true),(14,true),(15,true),(16,true),(17,true),(18,true),(19,true),(20,true),(21,true),(22,true),(23,true),(24,true),(25,true),(26,true),(27,true),(28,true),(29,true),(30,true),(31,true)] (by kernel_rfl) (by kernel_rfl) HB.out.drew ?_
      have hb:=HB.out.drew
      iterate 10 (refine plan_take (v:=?_) rfl (by rfl) ?_ ?_;rotate_left;(focus (intro w' hS;obtain ⟨f0,f1,f2,f3⟩:=HF.out w' hS;go_simp;try with_reducible rfl));simp only[Act.put,List.setIfInBounds_toArray,List.set_cons_zero,List.set_cons_succ])
      refine plan_call rfl (by rfl) (fun K hK=>?_)
      go_simp
      have hnew:=(Four.new wr (.bool n1) (.slice A1 m1 c1) (.bool n2) (.slice A2 m2 c2) 30).to (Below.refl _ _).drew
      replace hb:=hb.alloc hb.size (.cells #[.bool n1,.slice A1 m1 c1,.bool n2,.slice A2 m2 c2] 30)
      refine hK.out _ _ hb ?_
      clear hK K
      refine plan_call rfl (by rfl) (fun K hK=>?_)
      go_simp
      refine (long_2 M1.out M2.out hnew.c1 hnew.c3 HL.out).mono ?_
      rintro e V ⟨rfl,rfl⟩
      refine hK.out _ _ hb ?_
      clear hK K hnew
      iterate 3 (refine plan_take (v:=?_) rfl (by rfl) ?_ ?_;rotate_left;(focus (intro w' hS;go_simp;try with_reducible rfl));simp only[Act.put,List.setIfInBounds_toArray,List.set_cons_zero,List.set_cons_succ])
      iterate 4 (refine plan_take (v:=?_) rfl (by rfl) ?_ ?_;rotate_left;(focus (intro w' hS;obtain ⟨f0,f1,f2,f3⟩:=HF.out w' hS;go_simp;try with_reducible rfl));simp only[Act.put,List.setIfInBounds_toArray,List.set_cons_zero,List.set_cons_succ])
      iterate 6 (refine plan_take (v:=?_) rfl (by rfl) ?_ ?_;rotate_left;(focus (intro w' hS;go_simp;try with_reducible rfl));simp only[Act.put,List.setIfInBounds_toArray,List.set_cons_zero,List.set_cons_succ])
      iterate 4 (refine plan_take (v:=?_) rfl (by rfl) ?_ ?_;rotate_left;(focus (intro w' hS;obtain ⟨f0,f1,f2,f3⟩:=HF.out w' hS;go_simp;try with_reducible rfl));simp only[Act.put,List.setIfInBounds_toArray,List.set_cons_zero,List.set_cons_succ])
      iterate 3 (refine plan_take (v:=?_) rfl (by rfl) ?_ ?_;rotate_left;(focus (intro w' hS;go_simp;try with_reducible rfl));simp only[Act.put,List.setIfInBounds_toArray,List.set_cons_zero,List.set_cons_succ])
      refine plan_done ?_
      have HE:=Hd hb
      clear hb HB
      go_wp2
      go_roundw
      case rel=>exact ⟨k+1,by simp,by omega,(fun j hj hjk=>by
       rcases Nat.lt_or_ge j k with h1|h1
       .exact HT.out j hj h1
       .obtain rfl:j=k:=by omega
        rw[HN2.out];exact hok.out),HE.out⟩
      case measure=>simp[intOf];omega
  .obtain rfl:k=ls.length:=by omega
   clear hlt
   go_wp2
   go_ret
   refine ⟨?_,HB.out⟩
   have:(ls.any fun p=>decide (6<p.1)||decide (6<p.2))=false:=by
    rw[List.any_eq_false]
    intro x hx
    obtain ⟨j,hj,rfl⟩:=List.getElem_of_mem hx
    have:=HT.out j hj hj
    simp;omega
   rw[<-HR.out,this]
   rfl
def ZxE (W:World)(e:E4):Prop:=Zx2 W e.a e.b/\Zx2 W e.c e.d
theorem Zx2.to {W V:World}{x y:Value}(h:Zx2 W x y)(hb:Below W.heap.size W V):Zx2 V x y:=by
 obtain ⟨n,A,c,xs,h1,h2,h3,h4⟩:=h
 exact ⟨n,A,c,xs,h1,h2,h3.to hb,h4⟩
theorem ZxE.to {W V:World}{e:E4}(h:ZxE W e)(hb:Below W.heap.size W V):ZxE V e:=⟨h.1.to hb,h.2.to hb⟩
theorem ZxE.fq {W:World}{e:E4}(h:ZxE W e):e.fq:=by
 obtain ⟨⟨n,A,c,xs,h1,h2,_⟩,⟨m,B,d,ys,h3,h4,_⟩⟩:=h
 exact ⟨⟨n,A,xs.length,c,h1,h2⟩,⟨m,B,ys.length,d,h3,h4⟩⟩
def vlen : Value->Nat
 | .slice _ n _=>n
 | _=>0
def lngE (e:E4):Bool:=decide (6<vlen e.b)||decide (6<vlen e.d)
def lngV (es:List E4):Bool:=decide (20<es.length)||es.any lngE
structure VA where
 A:Option Addr
 c:Nat
 es:List E4
structure VIn (W:World)(v:VA):Prop where
 row:Rq W W.heap.size v.A v.es
 el:∀e∈v.es,ZxE W e
 cap:v.es.length<=v.c
 c63:v.c<=9223372036854775807
theorem VIn.to {W V:World}{v:VA}(h:VIn W v)(hb:Below W.heap.size W V):VIn V v:=⟨h.row.to hb,fun e he=>(h.el e he).to hb,h.cap,h.c63⟩
theorem flong_v {w:World}{v:VA}(h:VIn w v)(hl:v.es.length<=1000){r:Bool}(hr:v.es.any lngE=r) :
  Calls Tryz.prog 28 #[.slice v.A v.es.length v.c] w fun e w'=>e=.returned (.bool r)/\Below w.heap.size w w':=by
 obtain ⟨A,c,es⟩:=v
 obtain ⟨hrow,hel,hcap,hc63⟩:=h
 dsimp only at hrow hel hcap hc63 hl hr ⊢
 have key:∃g o,∀k,k<es.length->A=some ⟨g,o,none⟩/\g<w.heap.size:=by
  by_cases h0:0<es.length
  .obtain ⟨b,o,rfl,hb,_⟩:=hrow 0 h0
   exact ⟨b,o,fun k _=>⟨rfl,hb⟩⟩
  .exact ⟨0,0,fun k hk=>by omega⟩
 obtain ⟨g,o,key⟩:=key
 have h1:=flong_o g o A (es.map fun e=>(vlen e.b,vlen e.d)) c w (fun k hk=>key k (by simpa using hk)) (fun k hk=>by
  have hk':k<es.length:=by simpa using hk
  obtain ⟨b,o',e1,hb,c0,c1,c2,c3⟩:=hrow k hk'
  obtain ⟨e2,_⟩:=key k hk'
  rw[e1]at e2
  simp only[Option.some.injEq,Addr.mk.injEq,and_true]at e2
  obtain ⟨rfl,rfl⟩:=e2
  obtain ⟨⟨n,A1,d1,xs,f1,f2,_⟩,⟨m,A2,d2,ys,f3,f4,_⟩⟩:=hel _ (List.getElem_mem hk')
  rw[f1]at c0
  rw[f2]at c1
  rw[f3]at c2
  rw[f4]at c3
  refine ⟨n,A1,d1,m,A2,d2,c0,?_,c2,?_⟩
  .rw[c1];simp[f2,vlen]
  .rw[c3];simp[f4,vlen]) (fun k hk=>by
  have hk':k<es.length:=by simpa using hk
  obtain ⟨⟨n,A1,d1,xs,f1,f2,_,_,g1,g2⟩,⟨m,A2,d2,ys,f3,f4,_,_,g3,g4⟩⟩:=hel _ (List.getElem_mem hk')
  simp only[List.getElem_map,f2,f4,vlen]
  exact ⟨by omega,by omega⟩) (by simpa using hl) (r:=r) (by rw[<-hr,List.any_map];rfl)
 rw[List.length_map]at h1
 exact h1
theorem vlong_any (g:Nat)(vs:List VA)(cap:Nat)(w:World)(hg:g<w.heap.size)(hc:∀i (h:i<vs.length),w.cell? ⟨g,i,none⟩=some (.slice vs[i].A vs[i].es.length vs[i].c))(hv:∀v∈vs,VIn w v)(hl:vs.length<=1000){r:Bool}(hr:vs.any (fun v=>lngV v.es)=r) :
  Calls Tryz.prog 27 #[.slice (some ⟨g,0,none⟩) vs.length cap] w fun e w'=>e=.returned (.bool r)/\Below w.heap.size w w':=by
 have HG:=Hd hg
 have HC:=Hd hc
 have HV:=Hd hv
 have HR:=Hd hr
 clear hg hc hv hr
 go_enter Tryz.func27,Tryz.ntmps27
 go_wp2
 go_loopw [3] (fun i wr=>∃k:Nat,i=.int .i64 k/\k<=vs.length/\(∀j (hj:j<vs.length),j<k->lngV vs[j].es=false)/\Below w.heap.size w wr) (fun i _=>vs.length-(intOf i).toNat)
 case atStart=>exact ⟨0,rfl,Nat.zero_le _,(fun j _ hj=>by omega),Below.refl _ _⟩
 case round =>
  obtain ⟨k,rfl,hk,ht,hb⟩:=hrel
  have HT:=Hd ht
  have HB:=Hd hb
  clear ht hb
  by_cases hlt:k<vs.length
  .have hki:(0:Int)<=(k:Int):=by omega
   have hki':(k:Int)<(vs.length:Int):=by omega
   have hcell:=(HB.out.cell (p:=⟨g,k,none⟩) HG.out).trans (HC.out k hlt)
   have hvk:=(HV.out _ (List.getElem_mem hlt)).to HB.out
   have HN:Hid (∀b,lngV vs[k].es=b->lngV vs[k].es=b):=fun _ h=>h
   obtain ⟨v,hve⟩:∃v,vs[k]=v:=⟨_,rfl⟩
   have HVE:=Hd hve
   rw[hve]at hcell hvk
   have hsz:=Nat.le_trans hvk.cap hvk.c63
   have HVK:=Hd hvk
   have HLT:=Hd hlt
   clear hvk HN hve
   by_cases h20:20<v.es.length
   .have hd:decide ((20:Int)<(v.es.length:Int))=true:=decide_eq_true (by omega)
    have hany:Hid (vs.any (fun v=>lngV v.es)=true):=by
     show _=_
     rw[List.any_eq_true]
     exact ⟨vs[k]'HLT.out,List.getElem_mem _,by rw[HVE.out];unfold lngV;rw[decide_eq_true h20];rfl⟩
    clear h20
    go_wp2
    go_ret
    exact ⟨by rw[<-HR.out,hany.out];rfl,HB.out⟩
   .have hd:decide ((20:Int)<(v.es.length:Int))=false:=decide_eq_false (by omega)
    have hd2:¬(20:Int)<(v.es.length:Int):=by omega
    have H20:=Hd h20
    obtain ⟨r1,hr1⟩:∃r1,v.es.any lngE=r1:=⟨_,rfl⟩
    have HR1:=Hd hr1
    clear h20 hr1
    go_wp2_with fail
    refine (flong_v HVK.out (by have:=H20.out;omega) HR1.out).mono ?_
    rintro e V ⟨rfl,bb⟩
    have HB2:=Hxb HB bb
    clear bb
    cases r1 with
    | true =>
     have hany:Hid (vs.any (fun v=>lngV v.es)=true):=by
      show _=_
      rw[List.any_eq_true]
      exact ⟨vs[k]'HLT.out,List.getElem_mem _,by rw[HVE.out];unfold lngV;rw[HR1.out,Bool.or_true]⟩
     go_wp2
     go_ret
     exact ⟨by rw[<-HR.out,hany.out];rfl,HB2.out⟩
    | false =>
     go_wp2
     go_roundw
     case rel =>
      refine ⟨k+1,by simp,HLT.out,fun j hj hjk=>?_,HB2.out⟩
      by_cases hjk':j=k
      .subst hjk'
       rw[HVE.out]
       unfold lngV
       rw[HR1.out,decide_eq_false H20.out]
       rfl
      .exact HT.out j hj (by omega)
     case measure=>have:=HLT.out;simp[intOf];omega
  .obtain rfl:k=vs.length:=by omega
   go_wp2
   go_ret
   refine ⟨?_,HB.out⟩
   rw[<-HR.out,show vs.any (fun v=>lngV v.es)=false from by
    rw[List.any_eq_false]
    intro x hx
    obtain ⟨j,hj,rfl⟩:=List.mem_iff_getElem.1 hx
    simpa using HT.out j hj hj]
   rfl
theorem VIn.vi {w:World}{v:VA}(h:VIn w v)(hl:lngV v.es=false):∃rs,Vi w v.A v.c v.es rs 6/\rs.length<=20:=by
 obtain ⟨A,c,es⟩:=v
 obtain ⟨hrow,hel,hcap,hc63⟩:=h
 dsimp only at hrow hel hcap hc63 hl ⊢
 unfold lngV at hl
 simp only[Bool.or_eq_false_iff,decide_eq_false_iff_not,List.any_eq_false]at hl
 have key:∀e∈es,∃r:Rat,Qi w e.a e.b e.c e.d r 6:=fun e he=>by
  have h1:=hl.2 e he
  obtain ⟨⟨n,A1,d1,xs,f1,f2,r1,g1,l1,m1⟩,⟨m,A2,d2,ys,f3,f4,r2,g2,l2,m2⟩⟩:=hel e he
  unfold lngE at h1
  simp only[f2,f4,vlen,Bool.or_eq_true,decide_eq_true_eq,not_or]at h1
  refine ⟨_,_,_,⟨n,A1,d1,xs,f1,f2,⟨r1,g1,l1,m1,by omega⟩,by omega,rfl⟩,⟨m,A2,d2,ys,f3,f4,⟨r2,g2,l2,m2,by omega⟩,by omega,rfl⟩,rfl,Sm.zof g1 (by omega),Sm.zof g2 (by omega)⟩
 obtain ⟨rs,h1,h2⟩:∃rs:List Rat,es.length=rs.length/\∀i,Qi w (es.getD i E4.z).a (es.getD i E4.z).b (es.getD i E4.z).c (es.getD i E4.z).d (rs.getD i 0) 6:=by
  clear hrow hcap hl hel
  induction es with
  | nil=>exact ⟨[],rfl,fun i=>by simpa [E4.z]using Qi.zero w⟩
  | cons e r ih =>
   obtain ⟨q,hq⟩:=key e (by simp)
   obtain ⟨rs,h1,h2⟩:=ih (fun e he=>key e (by simp[he]))
   refine ⟨q::rs,by simp[h1],fun i=>?_⟩
   cases i with
   | zero=>simpa using hq
   | succ i=>simpa using h2 i
 exact ⟨rs,⟨hrow,h1,h2,fun e he=>(hel e he).fq,hcap,hc63⟩,by rw[<-h1];omega⟩
end Go.Proofs.YtglhdielkkhefaaGreat

namespace Go.Proofs.YtglhdielkkhefaaGreat
open Go.ChangeShapes Go.WideShapes Go.ChangeAt Go.RowKit Go.Joins
instance : Inhabited E4:=⟨E4.z⟩
theorem spot_none {W:World}{a:Addr}{v:Value}(h:W.cell? a=some v):a.spot=none:=by
 unfold World.cell? at h
 split at h
 .split at h
  .cases h
  .rename_i hs
   simpa using hs
 .cases h
theorem open_v {H:Type}{enc:TypeId×Value->H}{W:World}{base:Nat}{spare:Nat->Bool}{held:Bool}{r:Reach}{b0:Nat}{v:Value}{d:DataW H}{p:List MemPlace}
  (hs:∀b,spare b=true) (hv:Value.okWide Tryz.prog W r b0 38 v) (h:DataW.Trod enc Tryz.prog W base spare held 38 v d p) :
  ∃A c es,v=.slice A es.length c/\VIn W ⟨A,c,es⟩:=by
 obtain ⟨a,len,cap,rfl⟩:=okWide_slice Tryz.underlying38 hv
 obtain ⟨fuel,hf⟩:=h
 replace hf:DataW.trod enc Tryz.prog W base spare held fuel 38 [.slice a len cap]=some (d,p):=hf
 rcases Go.Deep.open_slice Tryz.underlying38 hf with ⟨e1,_⟩|⟨ad,l,cp,m,n,D,Pl,e1,hb,hl,hm,hmm,_,hx⟩
 .simp only[List.cons.injEq,Value.slice.injEq,and_true]at e1
  obtain ⟨rfl,rfl,rfl⟩:=e1
  exact ⟨none,0,[],rfl,⟨Rq.nil,fun e he=>(by cases he),Nat.le_refl _,by decide⟩⟩
 .simp only[List.cons.injEq,Value.slice.injEq,and_true]at e1
  obtain ⟨rfl,rfl,rfl⟩:=e1
  have hlm:len<=m:=by rw[hmm];split<;>omega
  have each:∀i,i<len->∃E:E4,(W.cell? (ad.add (i*4))=some E.a/\W.cell? (ad.add (i*4+1))=some E.b/\W.cell? (ad.add (i*4+2))=some E.c/\W.cell? (ad.add (i*4+3))=some E.d)/\ZxE W E:=by
   intro i hi
   obtain ⟨cs',h1,h2⟩:=hx i (by omega)
   rw[cellsQ]at h1
   obtain ⟨_,hlen,hcell⟩:=World.cells?_some h1
   match cs',hlen with
   | [c0,c1,c2,c3],_ =>
    have f0:=hcell 0 (by omega)
    have f1:=hcell 1 (by omega)
    have f2:=hcell 2 (by omega)
    have f3:=hcell 3 (by omega)
    rw[Go.Deep.add_add]at f0 f1 f2 f3
    exact ⟨⟨c0,c1,c2,c3⟩,⟨by simpa using f0,by simpa using f1,by simpa using f2,by simpa using f3⟩,trod_q hs h2⟩
  obtain ⟨E,hE⟩:=Go.Deep.choose_lt each
  have hlen:((List.range len).map E).length=len:=by simp
  refine ⟨some ad,cap,(List.range len).map E,by rw[hlen],⟨?_,?_,by show ((List.range len).map E).length<=cap;rw[hlen];exact hl,by have:=hm;unfold maxLen at this;show cap<=_;omega⟩⟩
  .intro k hk
   have hk':k<len:=by rw[<-hlen];exact hk
   obtain ⟨⟨c0,c1,c2,c3⟩,_⟩:=hE k hk'
   have hsp:=spot_none (hE 0 (by omega)).1.1
   obtain ⟨b,o,sp⟩:=ad
   have h0:(⟨b,o,sp⟩:Addr).add (0*4)=⟨b,o,sp⟩:=by simp[Addr.add]
   rw[h0]at hsp
   dsimp only at hsp
   subst hsp
   have hadd:∀j,(⟨b,o,none⟩:Addr).add j=⟨b,o+j,none⟩:=fun j=>by
    unfold Addr.add
    by_cases hj:j=0
    .simp[hj]
    .simp[hj]
   rw[hadd]at c0 c1 c2 c3
   refine ⟨b,o,rfl,World.block_lt_of_cell? W _ c0,?_⟩
   have he:((List.range len).map E)[k]=E k:=by simp
   show W.cell? ⟨b,o+k*4,none⟩=some (((List.range len).map E)[k]).a/\W.cell? ⟨b,o+k*4+1,none⟩=some (((List.range len).map E)[k]).b/\W.cell? ⟨b,o+k*4+2,none⟩=some (((List.range len).map E)[k]).c/\W.cell? ⟨b,o+k*4+3,none⟩=some (((List.range len).map E)[k]).d
   rw[he]
   exact ⟨c0,by rw[<-Nat.add_assoc]at c1;exact c1,by rw[<-Nat.add_assoc]at c2;exact c2,by rw[<-Nat.add_assoc]at c3;exact c3⟩
  .intro e he
   obtain ⟨i,hi,rfl⟩:=List.mem_map.1 he
   exact (hE i (List.mem_range.1 hi)).2
theorem open_vt {H:Type}{enc:TypeId×Value->H}{W:World}{base:Nat}{spare:Nat->Bool}{held:Bool}{v:Value}{fuel:Nat}{x:DataW H×List MemPlace}
  (hs:∀b,spare b=true) (hf:DataW.trod enc Tryz.prog W base spare held fuel 38 [v]=some x) :
  ∃A c es,v=.slice A es.length c/\VIn W ⟨A,c,es⟩:=by
 rcases Go.Deep.open_slice Tryz.underlying38 hf with ⟨e1,_⟩|⟨ad,len,cap,m,n,D,Pl,e1,hb,hl,hm,hmm,_,hx⟩
 .simp only[List.cons.injEq,Value.slice.injEq,and_true]at e1
  obtain ⟨rfl,rfl,rfl⟩:=e1
  exact ⟨none,0,[],rfl,⟨Rq.nil,fun e he=>(by cases he),Nat.le_refl _,by decide⟩⟩
 .simp only[List.cons.injEq,Value.slice.injEq,and_true]at e1
  obtain ⟨rfl,rfl,rfl⟩:=e1
  have hlm:len<=m:=by rw[hmm];split<;>omega
  have each:∀i,i<len->∃E:E4,(W.cell? (ad.add (i*4))=some E.a/\W.cell? (ad.add (i*4+1))=some E.b/\W.cell? (ad.add (i*4+2))=some E.c/\W.cell? (ad.add (i*4+3))=some E.d)/\ZxE W E:=by
   intro i hi
   obtain ⟨cs',h1,h2⟩:=hx i (by omega)
   rw[cellsQ]at h1
   obtain ⟨_,hlen,hcell⟩:=World.cells?_some h1
   match cs',hlen with
   | [c0,c1,c2,c3],_ =>
    have f0:=hcell 0 (by omega)
    have f1:=hcell 1 (by omega)
    have f2:=hcell 2 (by omega)
    have f3:=hcell 3 (by omega)
    rw[Go.Deep.add_add]at f0 f1 f2 f3
    exact ⟨⟨c0,c1,c2,c3⟩,⟨by simpa using f0,by simpa using f1,by simpa using f2,by simpa using f3⟩,trod_q hs h2⟩
  obtain ⟨E,hE⟩:=Go.Deep.choose_lt each
  have hlen:((List.range len).map E).length=len:=by simp
  refine ⟨some ad,cap,(List.range len).map E,by rw[hlen],⟨?_,?_,by show ((List.range len).map E).length<=cap;rw[hlen];exact hl,by have:=hm;unfold maxLen at this;show cap<=_;omega⟩⟩
  .intro k hk
   have hk':k<len:=by rw[<-hlen];exact hk
   obtain ⟨⟨c0,c1,c2,c3⟩,_⟩:=hE k hk'
   have hsp:=spot_none (hE 0 (by omega)).1.1
   obtain ⟨b,o,sp⟩:=ad
   have h0:(⟨b,o,sp⟩:Addr).add (0*4)=⟨b,o,sp⟩:=by simp[Addr.add]
   rw[h0]at hsp
   dsimp only at hsp
   subst hsp
   have hadd:∀j,(⟨b,o,none⟩:Addr).add j=⟨b,o+j,none⟩:=fun j=>by
    unfold Addr.add
    by_cases hj:j=0
    .simp[hj]
    .simp[hj]
   rw[hadd]at c0 c1 c2 c3
   refine ⟨b,o,rfl,World.block_lt_of_cell? W _ c0,?_⟩
   have he:((List.range len).map E)[k]=E k:=by simp
   show W.cell? ⟨b,o+k*4,none⟩=some (((List.range len).map E)[k]).a/\W.cell? ⟨b,o+k*4+1,none⟩=some (((List.range len).map E)[k]).b/\W.cell? ⟨b,o+k*4+2,none⟩=some (((List.range len).map E)[k]).c/\W.cell? ⟨b,o+k*4+3,none⟩=some (((List.range len).map E)[k]).d
   rw[he]
   exact ⟨c0,by rw[<-Nat.add_assoc]at c1;exact c1,by rw[<-Nat.add_assoc]at c2;exact c2,by rw[<-Nat.add_assoc]at c3;exact c3⟩
  .intro e he
   obtain ⟨i,hi,rfl⟩:=List.mem_map.1 he
   exact (hE i (List.mem_range.1 hi)).2
theorem cellsV : Tryz.prog.cellsOf 38=1:=by kernel_rfl
theorem open_r {H:Type}{enc:TypeId×Value->H}{W:World}{base:Nat}{spare:Nat->Bool}{held:Bool}{r:Reach}{b0:Nat}{v:Value}{d:DataW H}{p:List MemPlace}
  (hs:∀b,spare b=true) (hv:Value.okWide Tryz.prog W r b0 22 v) (h:DataW.Trod enc Tryz.prog W base spare held 22 v d p) :
  ∃(P:Option Addr) (n C:Nat) (vs:Nat->VA),v=.slice P n C/\n<=9223372036854775807/\(∀i,i<n->∃b o,P=some ⟨b,o,none⟩/\b<W.heap.size/\W.cell? ⟨b,o+i,none⟩=some (.slice (vs i).A (vs i).es.length (vs i).c))/\∀i,i<n->VIn W (vs i):=by
 obtain ⟨a,len,cap,rfl⟩:=okWide_slice Tryz.underlying22 hv
 obtain ⟨fuel,hf⟩:=h
 replace hf:DataW.trod enc Tryz.prog W base spare held fuel 22 [.slice a len cap]=some (d,p):=hf
 rcases Go.Deep.open_slice1 Tryz.underlying22 cellsV hf with ⟨e1,_⟩|⟨ad,l,cp,m,n,V,D,Pl,e1,hb,hl,hm,hmm,_,hx⟩
 .simp only[List.cons.injEq,Value.slice.injEq,and_true]at e1
  obtain ⟨rfl,rfl,rfl⟩:=e1
  exact ⟨none,0,0,fun _=>⟨none,0,[]⟩,rfl,by decide,fun i hi=>absurd hi (Nat.not_lt_zero _),fun i hi=>absurd hi (Nat.not_lt_zero _)⟩
 .simp only[List.cons.injEq,Value.slice.injEq,and_true]at e1
  obtain ⟨rfl,rfl,rfl⟩:=e1
  have hlm:len<=m:=by rw[hmm];split<;>omega
  have each:∀i,i<len->∃u:VA,V i=.slice u.A u.es.length u.c/\VIn W u:=fun i hi=>by
   obtain ⟨A,c,es,h1,h2⟩:=open_vt hs (hx i (by omega)).2
   exact ⟨⟨A,c,es⟩,h1,h2⟩
  haveI:Inhabited VA:=⟨⟨none,0,[]⟩⟩
  obtain ⟨vs,hvs⟩:=Go.Deep.choose_lt each
  refine ⟨some ad,len,cap,vs,rfl,by have:=hm;unfold maxLen at this;omega,fun i hi=>?_,fun i hi=>(hvs i hi).2⟩
  have hc:=(hx i (by omega)).1
  have h0:=(hx 0 (by omega)).1
  obtain ⟨b,o,sp⟩:=ad
  have h00:(⟨b,o,sp⟩:Addr).add 0=⟨b,o,sp⟩:=by simp[Addr.add]
  rw[h00]at h0
  have hsp:=spot_none h0
  dsimp only at hsp
  subst hsp
  have hadd:(⟨b,o,none⟩:Addr).add i=⟨b,o+i,none⟩:=by
   unfold Addr.add
   by_cases hj:i=0
   .simp[hj]
   .simp[hj]
  rw[hadd,(hvs i hi).1]at hc
  exact ⟨b,o,rfl,World.block_lt_of_cell? W _ hc,hc⟩
end Go.Proofs.YtglhdielkkhefaaGreat

namespace Go.Proofs.YtglhdielkkhefaaGreat
open Go.RowKit Go.Shelf
theorem vlong_o (P:Option Addr)(vs:List VA)(cap:Nat)(w:World)(hc:∀i (h:i<vs.length),∃b o,P=some ⟨b,o,none⟩/\b<w.heap.size/\w.cell? ⟨b,o+i,none⟩=some (.slice vs[i].A vs[i].es.length vs[i].c))(hv:∀v∈vs,VIn w v)(hl:vs.length<=9223372036854775807){r:Bool}(hr:vs.any (fun v=>lngV v.es)=r) :
  Calls Tryz.prog 27 #[.slice P vs.length cap] w fun e w'=>e=.returned (.bool r)/\Below w.heap.size w w':=by
 have HC:=Hd hc
 have HV:=Hd hv
 have HR:=Hd hr
 clear hc hv hr
 go_enter Tryz.func27,Tryz.ntmps27
 go_wp2
 go_loopw [3] (fun i wr=>∃k:Nat,i=.int .i64 k/\k<=vs.length/\(∀j (hj:j<vs.length),j<k->lngV vs[j].es=false)/\Below w.heap.size w wr) (fun i _=>vs.length-(intOf i).toNat)
 case atStart=>exact ⟨0,rfl,Nat.zero_le _,(fun j _ hj=>by omega),Below.refl _ _⟩
 case round =>
  obtain ⟨k,rfl,hk,ht,hb⟩:=hrel
  have HT:=Hd ht
  have HB:=Hd hb
  clear ht hb
  by_cases hlt:k<vs.length
  .have hki:(0:Int)<=(k:Int):=by omega
   have hki':(k:Int)<(vs.length:Int):=by omega
   obtain ⟨b,o,rfl,hbb,hc0⟩:=HC.out k hlt
   have hcell:=(HB.out.cell (p:=⟨b,o+k,none⟩) hbb).trans hc0
   have hk63:(k:Int)+1<=9223372036854775807:=by omega
   clear hc0 hbb
   have hvk:=(HV.out _ (List.getElem_mem hlt)).to HB.out
   have HN:Hid (∀b,lngV vs[k].es=b->lngV vs[k].es=b):=fun _ h=>h
   obtain ⟨v,hve⟩:∃v,vs[k]=v:=⟨_,rfl⟩
   have HVE:=Hd hve
   rw[hve]at hcell hvk
   have hsz:=Nat.le_trans hvk.cap hvk.c63
   have HVK:=Hd hvk
   have HLT:=Hd hlt
   clear hvk HN hve
   by_cases h20:20<v.es.length
   .have hd:decide ((20:Int)<(v.es.length:Int))=true:=decide_eq_true (by omega)
    have hany:Hid (vs.any (fun v=>lngV v.es)=true):=by
     show _=_
     rw[List.any_eq_true]
     exact ⟨vs[k]'HLT.out,List.getElem_mem _,by rw[HVE.out];unfold lngV;rw[decide_eq_true h20];rfl⟩
    clear h20
    go_wp2
    go_ret
    exact ⟨by rw[<-HR.out,hany.out];rfl,HB.out⟩
   .have hd:decide ((20:Int)<(v.es.length:Int))=false:=decide_eq_false (by omega)
    have hd2:¬(20:Int)<(v.es.length:Int):=by omega
    have H20:=Hd h20
    obtain ⟨r1,hr1⟩:∃r1,v.es.any lngE=r1:=⟨_,rfl⟩
    have HR1:=Hd hr1
    clear h20 hr1
    go_wp2_with fail
    refine (flong_v HVK.out (by have:=H20.out;omega) HR1.out).mono ?_
    rintro e V ⟨rfl,bb⟩
    have HB2:=Hxb HB bb
    clear bb
    cases r1 with
    | true =>
     have hany:Hid (vs.any (fun v=>lngV v.es)=true):=by
      show _=_
      rw[List.any_eq_true]
      exact ⟨vs[k]'HLT.out,List.getElem_mem _,by rw[HVE.out];unfold lngV;rw[HR1.out,Bool.or_true]⟩
     go_wp2
     go_ret
     exact ⟨by rw[<-HR.out,hany.out];rfl,HB2.out⟩
    | false =>
     go_wp2
     go_roundw
     case rel =>
      refine ⟨k+1,by simp,HLT.out,fun j hj hjk=>?_,HB2.out⟩
      by_cases hjk':j=k
      .subst hjk'
       rw[HVE.out]
       unfold lngV
       rw[HR1.out,decide_eq_false H20.out]
       rfl
      .exact HT.out j hj (by omega)
     case measure=>have:=HLT.out;simp[intOf];omega
  .obtain rfl:k=vs.length:=by omega
   go_wp2
   go_ret
   refine ⟨?_,HB.out⟩
   rw[<-HR.out,show vs.any (fun v=>lngV v.es)=false from by
    rw[List.any_eq_false]
    intro x hx
    obtain ⟨j,hj,rfl⟩:=List.mem_iff_getElem.1 hx
    simpa using HT.out j hj hj]
   rfl
structure MA where
 P:Option Addr
 N:Nat
 C:Nat
 vs:Nat->VA
structure MIn (W:World)(M:MA):Prop where
 row:∀i,i<M.N->∃b o,M.P=some ⟨b,o,none⟩/\b<W.heap.size/\W.cell? ⟨b,o+i,none⟩=some (.slice (M.vs i).A (M.vs i).es.length (M.vs i).c)
 vin:∀i,i<M.N->VIn W (M.vs i)
 n63:M.N<=9223372036854775807
theorem MIn.to {W V:World}{M:MA}(h:MIn W M)(hb:Below W.heap.size W V):MIn V M :=
 ⟨fun i hi=>by
  obtain ⟨b,o,e,h1,h2⟩:=h.row i hi
  exact ⟨b,o,e,Nat.lt_of_lt_of_le h1 hb.size,(hb.cell (p:=⟨b,_,none⟩) h1).trans h2⟩,fun i hi=>(h.vin i hi).to hb,h.n63⟩
def rsL (vs:Nat->VA)(k:Nat):List Rat:=List.replicate (vs k).es.length 0
def lngM (M:MA):Bool:=decide (8<M.N)||decide (8<colsN (rsL M.vs) M.N)||((List.range M.N).map M.vs).any (fun v=>lngV v.es)
theorem vlong_n {w:World}{M:MA}(h:MIn w M){r:Bool}(hr:((List.range M.N).map M.vs).any (fun v=>lngV v.es)=r) :
  Calls Tryz.prog 27 #[.slice M.P M.N M.C] w fun e w'=>e=.returned (.bool r)/\Below w.heap.size w w':=by
 have hl:((List.range M.N).map M.vs).length=M.N:=by simp
 have h1:=vlong_o M.P ((List.range M.N).map M.vs) M.C w (fun i hi=>by
  rw[hl]at hi
  obtain ⟨b,o,e,hb,h⟩:=h.row i hi
  exact ⟨b,o,e,hb,by simpa using h⟩) (fun v hm=>by
  obtain ⟨i,hi,rfl⟩:=List.mem_map.1 hm
  exact h.vin i (List.mem_range.1 hi)) (by rw[hl];exact h.n63) hr
 rwa [hl]at h1
theorem mcols_n {w:World}{M:MA}(h:MIn w M)(h8:M.N<=8) :
  Calls Tryz.prog 14 #[.slice M.P M.N M.C] w fun e w'=>e=.returned (.int .i64 (colsN (rsL M.vs) M.N))/\Below w.heap.size w w' :=
 rcols_m (fun k hk=>by
  obtain ⟨b,o,e,h1,h2⟩:=h.row k hk
  exact ⟨b,o,(M.vs k).A,(M.vs k).c,e,h1,by rw[h2];simp[rsL]⟩) (by omega) (fun k hk=>by
  have h1:=(h.vin k hk).cap
  have h2:=(h.vin k hk).c63
  simp only[rsL,List.length_replicate]
  omega)
theorem long4_o (P:Option Addr)(ms:List MA)(cap:Nat)(w:World)(hc:∀i (h:i<ms.length),∃b o,P=some ⟨b,o,none⟩/\b<w.heap.size/\w.cell? ⟨b,o+i,none⟩=some (.slice ms[i].P ms[i].N ms[i].C))(hv:∀M∈ms,MIn w M)(hl:ms.length<=1000){r:Bool}(hr:ms.any lngM=r) :
  Calls Tryz.prog 10 #[.slice P ms.length cap] w fun e w'=>e=.returned (.bool r)/\Below w.heap.size w w':=by
 have HC:=Hd hc
 have HV:=Hd hv
 have HR:=Hd hr
 obtain ⟨N,hN⟩:∃N,ms.length=N:=⟨_,rfl⟩
 have HN:=Hd hN
 rw[hN]at hl ⊢
 have HL:=Hd hl
 clear hc hv hr hN hl
 go_enter Tryz.func10,Tryz.ntmps10
 go_wp2
 go_loopw [3] (fun i wr=>∃k:Nat,i=.int .i64 k/\k<=N/\(∀j (h:j<ms.length),j<k->lngM ms[j]=false)/\Below w.heap.size w wr) (fun i _=>N-(intOf i).toNat)
 case atStart=>exact ⟨0,rfl,Nat.zero_le _,fun j h h0=>by omega,Below.refl _ _⟩
 case round =>
  obtain ⟨k,rfl,hk,hz,hb⟩:=hrel
  by_cases hlt:k<N
  .have hk1:(0:Int)<=(k:Int):=by omega
   have hk2:(k:Int)<(N:Int):=by omega
   have hk3:(k:Int)+1<=9223372036854775807:=by have:=HL.out;omega
   have hkm:k<ms.length:=by rw[HN.out];exact hlt
   obtain ⟨b,o,rfl,hbo,hcc⟩:=HC.out k hkm
   have fc:=(hb.cell (p:=⟨b,_,none⟩) hbo).trans hcc
   have hM:=(HV.out _ (List.getElem_mem hkm)).to hb
   have HT:Hid (lngM ms[k]=true->r=true):=fun h=>by rw[<-HR.out];exact List.any_eq_true.2 ⟨_,List.getElem_mem hkm,h⟩
   have HZ:Hid (lngM ms[k]=false->∀j (h:j<ms.length),j<k+1->lngM ms[j]=false):=fun h j hj hjk=>by
    by_cases e:j=k
    .subst e;exact h
    .exact hz j hj (by omega)
   have HB:=Hd hb
   have HLT:=Hd hlt
   obtain ⟨M,hMM⟩:∃M,ms[k]=M:=⟨_,rfl⟩
   rw[hMM]at fc hM HT HZ
   clear hb hlt hk hz hkm hbo hcc hMM
   have HMI:=Hd hM
   have hn63:=hM.n63
   clear hM
   by_cases h8:8<M.N
   .have d8:(8:Int)<(M.N:Int):=by omega
    have hr:r=true:=HT.out (by unfold lngM;rw[decide_eq_true h8];rfl)
    have HRT:=Hd hr
    clear h8 hn63 hr
    go_wp2
    go_ret
    exact ⟨by rw[HRT.out];rfl,HB.out⟩
   .have d8:¬(8:Int)<(M.N:Int):=by omega
    have hCO:=Hd (mcols_n HMI.out (by omega))
    have H8:=Hd h8
    clear h8 hn63
    go_wp2_with fail
    refine hCO.out.mono ?_
    rintro e V ⟨rfl,bb⟩
    have fV:=(bb.cell (p:=⟨b,o+k,none⟩) (World.block_lt_of_cell? wr _ fc)).trans fc
    have HMV:=Hd (HMI.out.to bb)
    replace HB:=Hxb HB bb
    clear bb hCO fc HMI
    obtain ⟨x,hx⟩:∃x,colsN (rsL M.vs) M.N=x:=⟨_,rfl⟩
    have HXX:=Hd hx
    rw[hx]
    clear hx
    by_cases hx8:8<x
    .have e8:(8:Int)<(x:Int):=by omega
     have e9:decide ((8:Int)<(x:Int))=true:=decide_eq_true e8
     have hr:r=true:=HT.out (by unfold lngM;rw[HXX.out,decide_eq_true hx8];simp)
     have HRT:=Hd hr
     clear hx8 hr
     go_wp2
     go_ret
     exact ⟨by rw[HRT.out];rfl,HB.out⟩
    .have e8:¬(8:Int)<(x:Int):=by omega
     have e9:decide ((8:Int)<(x:Int))=false:=decide_eq_false e8
     have HX8:=Hd hx8
     clear hx8
     obtain ⟨y,hy⟩:∃y,((List.range M.N).map M.vs).any (fun v=>lngV v.es)=y:=⟨_,rfl⟩
     have hLO:=Hd (vlong_n HMV.out hy)
     have HLM:Hid (lngM M=y):=by
      show _=_
      unfold lngM
      rw[HXX.out,decide_eq_false H8.out,decide_eq_false HX8.out,hy]
      rfl
     clear hy
     go_wp2_with fail
     refine hLO.out.mono ?_
     rintro e V2 ⟨rfl,bb⟩
     replace HB:=Hxb HB bb
     clear bb hLO fV HMV
     cases y with
     | true =>
      have hr:r=true:=HT.out HLM.out
      have HRT:=Hd hr
      clear hr
      go_wp2
      go_ret
      exact ⟨by rw[HRT.out];rfl,HB.out⟩
     | false =>
      have HZ2:=Hd (HZ.out HLM.out)
      clear HT HZ HLM HXX H8 HX8 HC HV HR
      go_wp2
      go_roundw
      case rel=>exact ⟨k+1,by simp,HLT.out,HZ2.out,HB.out⟩
      case measure=>have:=HLT.out;simp[intOf];omega
  .obtain rfl:k=N:=by omega
   have HB:=Hd hb
   have hr:r=false:=by
    rw[<-HR.out]
    refine List.any_eq_false.2 fun M hm=>?_
    obtain ⟨j,hj,rfl⟩:=List.getElem_of_mem hm
    rw[hz j hj (by rw[<-HN.out];exact hj)]
    decide
   have HRT:=Hd hr
   clear hb hlt hk hz hr
   go_wp2
   go_ret
   exact ⟨by rw[HRT.out];rfl,HB.out⟩
theorem MIn.mi {w:World}{M:MA}(h:MIn w M)(hl:lngM M=false):∃rs:Nat->List Rat,Mi w M.P M.N M.C rs 6/\M.N<=8/\∀k,k<M.N->(rs k).length<=8:=by
 unfold lngM at hl
 simp only[Bool.or_eq_false_iff,decide_eq_false_iff_not]at hl
 obtain ⟨⟨h1,h2⟩,h3⟩:=hl
 have each:∀i,i<M.N->∃r:List Rat,Vi w (M.vs i).A (M.vs i).c (M.vs i).es r 6:=fun i hi=>by
  have h4:=List.any_eq_false.1 h3 (M.vs i) (List.mem_map.2 ⟨i,List.mem_range.2 hi,rfl⟩)
  obtain ⟨rs,h5,_⟩:=(h.vin i hi).vi (by simpa using h4)
  exact ⟨rs,h5⟩
 obtain ⟨rs,hrs⟩:=Go.Deep.choose_lt each
 refine ⟨rs,⟨fun k hk=>?_,h.n63⟩,by omega,fun k hk=>?_⟩
 .obtain ⟨b,o,e,h5,h6⟩:=h.row k hk
  exact ⟨b,o,(M.vs k).A,(M.vs k).c,(M.vs k).es,e,h5,by rw[<-(hrs k hk).len];exact h6,hrs k hk⟩
 .have h5:=colsN_ge (rsL M.vs) hk
  simp only[rsL,List.length_replicate]at h5
  rw[<-(hrs k hk).len]
  omega
end Go.Proofs.YtglhdielkkhefaaGreat
