/- Parts: 2. -/
import Derived.Test.YtglhdielkkhefaaGreatMr18
import Derived.Test.YtglhdielkkhefaaGreatMr21
import Derived.Test.YtglhdielkkhefaaGreatMr22
set_option linter.unusedVariables false
set_option linter.unusedSimpArgs false
set_option maxRecDepth 100000
set_option maxHeartbeats 40000000

namespace Go.Proofs.YtglhdielkkhefaaGreat
open Go.RowKit Go.Shelf
structure Vy (W:World)(A:Option Addr)(c:Nat)(rs:List Rat)(m L:Nat):Prop where
 vi:∃es,Vi W A c es rs m
 q:∀i,Qm m (rs.getD i 0)
 l:rs.length<=L
theorem Vy.to {W V:World}{A:Option Addr}{c m L:Nat}{rs:List Rat}(h:Vy W A c rs m L)(hb:Below W.heap.size W V):Vy V A c rs m L:=by
 obtain ⟨⟨es,h1⟩,h2,h3⟩:=h
 exact ⟨⟨es,h1.to hb⟩,h2,h3⟩
def YR (w:World)(us:List Rat)(m L:Nat)(e:Ending)(w':World):Prop:=∃A c rs,e=.returned (.slice A rs.length c)/\Hid (rs=us)/\Vy w' A c rs m L/\Below w.heap.size w w'
theorem VR.yr {w:World}{us:List Rat}{m L:Nat}{e:Ending}{w':World}(h:VR w us e w')(hq:∀i,Qm m (us.getD i 0))(hl:us.length<=L)(hm:m<=10000):YR w us m L e w':=by
 obtain ⟨A,c,es,rfl,hv,hb⟩:=h
 exact ⟨A,c,us,rfl,rfl,⟨⟨es,hv.vi hq hm⟩,hq,hl⟩,hb⟩
theorem tab_qm {N m:Nat}{g:Nat->Rat}(h:∀i,i<N->Qm m (g i))(hm:0<m)(j:Nat):Qm m ((tab N g).getD j 0):=by
 by_cases hj:j<N
 .rw[tab_getD _ hj];exact h j hj
 .rw[tab_ge _ (by omega)];exact Qm.zero hm
theorem dotQ_qm {us bs:List Rat}{m l K:Nat}(hu:∀i,Qm m (us.getD i 0))(hb:∀i,Qm l (bs.getD i 0))(hK:min us.length bs.length<=K):Qm (K*(m+l+1)+1) (dotQ us bs):=by
 rw[dot_el us bs K hK]
 exact Qm.sumF (fun i=>(hu i).mul (hb i)) K
theorem rowMul_qm {ys:List Rat}{rs:Nat->List Rat}{N L m l K j:Nat}(hy:∀i,Qm l (ys.getD i 0))(hr:Mv m L rs N)(hm:0<m)(hK:N<=K):Qm (K*(l+m+1)+1) (rowMul ys rs N j):=by
 rw[rowMul_el ys rs N j K (by omega)]
 refine Qm.sumF (fun i=>(hy i).mul ?_) K
 by_cases hi:i<N
 .rw[el_in hi];exact hr.q i hi j
 .rw[el_out hi];exact Qm.zero hm
def turnR (rs:Nat->List Rat)(N:Nat)(i:Nat):List Rat:=tab N (fun k=>(rs k).getD i 0)
theorem el_turnR (rs:Nat->List Rat)(N i j:Nat):el (turnR rs N) (colsN rs N) i j=el rs N j i:=el_turn rs N i j
theorem turnR_gd (rs:Nat->List Rat)(N i k:Nat):(turnR rs N i).getD k 0=el rs N k i:=by
 unfold turnR
 by_cases h:k<N
 .rw[tab_getD _ h,el_in h]
 .rw[tab_ge _ (by omega),el_out h]
theorem Mv.turn {m L N:Nat}{rs:Nat->List Rat}(h:Mv m L rs N)(hm:0<m)(M:Nat){K:Nat}(hK:N<=K):Mv m K (turnR rs N) M where
 q:=fun k _ j=>tab_qm (fun i hi=>h.q i hi k) hm j
 l:=fun k _=>by unfold turnR;rw[tab_length];exact hK
theorem turn_x {w:World}{P:Option Addr}{N C m L:Nat}{rs:Nat->List Rat}(hA:Mx w P N C rs m L)(K:Nat)(hm:0<m)(hm2:m<=10000)(hN:N<=100)(hL:L<=100)(hK:N<=K) :
  Calls Tryz.prog 23 #[.slice P N C] w (fun e w'=>∃P N' C,e=.returned (.slice P N' C)/\Hid (N'=colsN rs N)/\Hid (N'<=L)/\Mx w' P N' C (turnR rs N) m K/\Below w.heap.size w w') :=
 (turn_m hA.mi hm2 (by omega) (fun k hk=>by have:=hA.mv.l k hk;omega)).mono fun _ _ h=>by
  obtain ⟨P,C,e1,h1,h2⟩:=MR.xr h (hA.mv.turn hm _ hK) hm2
  exact ⟨P,_,C,e1,rfl,colsN_le hA.mv.l,h1,h2⟩
theorem mulVec_x {w:World}{P A':Option Addr}{N C m c' l L L':Nat}{rs:Nat->List Rat}{ss:List Rat}(hM:Mx w P N C rs m L)(hX:Vy w A' c' ss l L')(K J:Nat)(hm:0<m)(hl:0<l)(hN:N<=100)(hL:L<=K)(hL':L'<=100)(hK:K<=L')(hb:L'*(m+l+1)+1+(m+l)+1<=10000)(hJ:N<=J) :
  Calls Tryz.prog 38 #[.slice P N C,.slice A' ss.length c'] w (YR w (tab N (fun i=>dotQ (rs i) ss)) (K*(m+l+1)+1) J):=by
 obtain ⟨⟨es,hv⟩,hq,hln⟩:=hX
 refine (mulVec_m hM.mi hv hm hl (by omega) (fun k hk=>by have:=hM.mv.l k hk;omega) (by omega) (fun i hi=>?_)).mono fun _ _ h=>VR.yr h (tab_qm (fun i hi=>dotQ_qm (hM.mv.q i hi) hq (by have:=hM.mv.l i hi;omega)) (by omega)) (by rw[tab_length];exact hJ) ?_
 .have h3:=Nat.mul_le_mul_right (m+l+1) (show max (rs i).length ss.length<=L' by have:=hM.mv.l i hi;omega)
  omega
 .have h3:=Nat.mul_le_mul_right (m+l+1) hK
  omega
theorem vecMul_x {w:World}{A' P:Option Addr}{c' N C l m L L':Nat}{ys:List Rat}{rs:Nat->List Rat}(hY:Vy w A' c' ys l L')(hM:Mx w P N C rs m L)(K:Nat)(hm:0<m)(hl:0<l)(hN:N<=K)(hK:K<=100)(hL:L<=100)(hL':L'<=100)(hb:K*(l+m+1)+1+(l+m)+1<=10000) :
  Calls Tryz.prog 40 #[.slice A' ys.length c',.slice P N C] w (YR w (tab (colsN rs N) (rowMul ys rs N)) (K*(l+m+1)+1) L):=by
 obtain ⟨⟨es,hv⟩,hq,hln⟩:=hY
 refine (vecMul_m hv hM.mi hl hm (fun k hk=>by have:=hM.mv.l k hk;omega) (by omega) (by omega) ?_).mono fun _ _ h=>VR.yr h (tab_qm (fun i _=>rowMul_qm hq hM.mv hm hN) (by omega)) (by rw[tab_length];exact colsN_le hM.mv.l) (by omega)
 have h3:=Nat.mul_le_mul_right (l+m+1) (show min ys.length N<=K by omega)
 omega
theorem vequal_x {w:World}{A A':Option Addr}{c c' k l L L':Nat}{rs ss:List Rat}(hA:Vy w A c rs k L)(hB:Vy w A' c' ss l L')(hk:0<k)(hl:0<l)(hkl:k+l<=10000)(hL:L<=100)(hL':L'<=100)(hv:decide (lexQ rs ss=0)=true) :
  Calls Tryz.prog 44 #[.slice A rs.length c,.slice A' ss.length c'] w fun e w'=>e=.returned (.bool true)/\Below w.heap.size w w':=by
 obtain ⟨⟨es,h1⟩,_,h2⟩:=hA
 obtain ⟨⟨fs,h3⟩,_,h4⟩:=hB
 exact vequal_v h1 h3 hk hl hkl (by omega) (by omega) hv
theorem vdot_x {w:World}{A A':Option Addr}{c c' k l L L':Nat}{rs ss:List Rat}(hA:Vy w A c rs k L)(hB:Vy w A' c' ss l L')(K:Nat)(hk:0<k)(hl:0<l)(hL:L<=K)(hL':L'<=K)(hK:K<=100)(hb:K*(k+l+1)+1+(k+l)+1<=10000) :
  Calls Tryz.prog 46 #[.slice A rs.length c,.slice A' ss.length c'] w fun e w'=>∃a b c d r,e=.returned (.agg #[a,b,c,d])/\Hid (r=dotQ rs ss)/\Qi w' a b c d r (K*(k+l+1)+1)/\Below w.heap.size w w':=by
 obtain ⟨⟨es,h1⟩,q1,h2⟩:=hA
 obtain ⟨⟨fs,h3⟩,q2,h4⟩:=hB
 refine (vdot_v h1 h3 hk hl (by omega) (by omega) ?_).mono ?_
 .have h5:=Nat.mul_le_mul_right (k+l+1) (show max rs.length ss.length<=K by omega)
  omega
 .rintro e w' ⟨a,b,c,d,rfl,hc,hbl⟩
  exact ⟨a,b,c,d,_,rfl,rfl,hc.qi (dotQ_qm q1 q2 (by omega)) (by omega),hbl⟩
theorem trans_mul (a b:Nat->List Rat)(Na Nb:Nat):eqM (turnR (mulR a b Nb) Na) (colsN (mulR a b Nb) Na) (mulR (turnR b Nb) (turnR a Na) (colsN a Na)) (colsN b Nb)=true:=eqM_of fun i j=>by
 rw[el_turnR,el_mulR _ _ _ _ _ _ (max Nb (colsN a Na)) (Nat.le_max_left _ _),el_mulR _ _ _ _ _ _ (max Nb (colsN a Na)) (Nat.le_max_right _ _)]
 exact sumF_cong _ fun k _=>by rw[el_turnR,el_turnR,Rat.mul_comm]
theorem trans_vec (a:Nat->List Rat)(N:Nat)(y:List Rat):decide (lexQ (tab (colsN a N) (fun i=>dotQ (turnR a N i) y)) (tab (colsN a N) (rowMul y a N))=0)=true:=lexEq fun i=>by
 by_cases h:i<colsN a N
 .rw[tab_getD _ h,tab_getD _ h,dot_el _ _ N (by unfold turnR;rw[tab_length];omega),rowMul_el _ _ _ _ N (by omega)]
  exact sumF_cong _ fun k _=>by rw[turnR_gd,Rat.mul_comm]
 .rw[tab_ge _ (by omega),tab_ge _ (by omega)]
theorem trans_dot (a:Nat->List Rat)(N:Nat)(x y:List Rat):dotQ y (tab N (fun i=>dotQ (a i) x))=dotQ (tab (colsN a N) (rowMul y a N)) x:=by
 rw[dot_el _ _ N (by rw[tab_length];omega),dot_el (tab (colsN a N) (rowMul y a N)) x (colsN a N) (by rw[tab_length];omega)]
 have e1:∀k,k<N->y.getD k 0*(tab N (fun i=>dotQ (a i) x)).getD k 0=y.getD k 0*sumF (fun j=>el a N k j*x.getD j 0) (colsN a N):=fun k hk=>by
  rw[tab_getD _ hk,dot_el (a k) x (colsN a N) (by have:=colsN_ge a hk;omega)]
  congr 1
  exact sumF_cong _ fun j _=>by rw[el_in hk]
 have e2:∀j,j<colsN a N->(tab (colsN a N) (rowMul y a N)).getD j 0*x.getD j 0=sumF (fun k=>y.getD k 0*el a N k j) N*x.getD j 0:=fun j hj=>by
  rw[tab_getD _ hj,rowMul_el _ _ _ _ N (by omega)]
 rw[sumF_cong _ e1,sumF_cong _ e2]
 exact (assoc_el (fun _ l=>y.getD l 0) (fun l k=>el a N l k) (fun k _=>x.getD k 0) (colsN a N) N 0 0).symm
theorem mtrans_long {w:World}{A B:MA}{X Y:VA}(v1:MIn w A)(v2:MIn w B)(v3:VIn w X)(v4:VIn w Y)(hl:[A,B].any lngM=true) :
  Calls Tryz.prog 7 #[.slice A.P A.N A.C,.slice B.P B.N B.C,.slice X.A X.es.length X.c,.slice Y.A Y.es.length Y.c] w fun e w'=>e=.returned (.bool true)/\Below w.heap.size w w':=by
 obtain ⟨W0,hW0⟩:∃W0,W0=w.alloc (.cells #[.slice A.P A.N A.C,.slice B.P B.N B.C] 22):=⟨_,rfl⟩
 have hbw:Below w.heap.size w W0:=by rw[hW0];exact (Below.refl _ _).alloc (Nat.le_refl _) _
 have hp:Hp W0 w.heap.size (.cells #[.slice A.P A.N A.C,.slice B.P B.N B.C] 22 (0,0)):=by rw[hW0];exact Hp.new _ _ _
 have HL:=Hd (long4_o (some ⟨w.heap.size,0,none⟩) [A,B] 2 W0 (fun i hi=>by
  match i,hi with
  | 0,_=>exact ⟨_,_,rfl,hp.lt,(hp.cellAt _).trans rfl⟩
  | 1,_=>exact ⟨_,_,rfl,hp.lt,(hp.cellAt _).trans rfl⟩) (fun v hv=>by
  simp only[List.mem_cons,List.not_mem_nil,or_false]at hv
  rcases hv with rfl|rfl
  .exact v1.to hbw
  .exact v2.to hbw) (by simp) (r:=true) (by simpa using hl))
 have HW0:=Hd hW0
 have HB:=Hd hbw
 clear hW0 hbw hp hl v1 v2 v3 v4
 go_enter Tryz.func7,Tryz.ntmps7
 go_wp2_with fail
 rw[<-HW0.out]
 refine HL.out.mono ?_
 rintro e V ⟨rfl,bb⟩
 clear HL HW0
 replace HB:=Hxb HB bb
 clear bb
 go_wp2_with fail
 refine (malive_any _).mono ?_
 rintro e V ⟨rfl,bb⟩
 replace HB:=Hxb HB bb
 clear bb
 go_wp2
 go_ret
 exact ⟨rfl,HB.out⟩
theorem mtrans_long2 {w:World}{A B:MA}{X Y:VA}(v1:MIn w A)(v2:MIn w B)(v3:VIn w X)(v4:VIn w Y)(hl:[A,B].any lngM=false)(hm:[X,Y].any (fun v=>lngV v.es)=true) :
  Calls Tryz.prog 7 #[.slice A.P A.N A.C,.slice B.P B.N B.C,.slice X.A X.es.length X.c,.slice Y.A Y.es.length Y.c] w fun e w'=>e=.returned (.bool true)/\Below w.heap.size w w':=by
 obtain ⟨W0,hW0⟩:∃W0,W0=w.alloc (.cells #[.slice A.P A.N A.C,.slice B.P B.N B.C] 22):=⟨_,rfl⟩
 have hbw:Below w.heap.size w W0:=by rw[hW0];exact (Below.refl _ _).alloc (Nat.le_refl _) _
 have hp:Hp W0 w.heap.size (.cells #[.slice A.P A.N A.C,.slice B.P B.N B.C] 22 (0,0)):=by rw[hW0];exact Hp.new _ _ _
 have HL:=Hd (long4_o (some ⟨w.heap.size,0,none⟩) [A,B] 2 W0 (fun i hi=>by
  match i,hi with
  | 0,_=>exact ⟨_,_,rfl,hp.lt,(hp.cellAt _).trans rfl⟩
  | 1,_=>exact ⟨_,_,rfl,hp.lt,(hp.cellAt _).trans rfl⟩) (fun v hv=>by
  simp only[List.mem_cons,List.not_mem_nil,or_false]at hv
  rcases hv with rfl|rfl
  .exact v1.to hbw
  .exact v2.to hbw) (by simp) (r:=false) (by simpa using hl))
 have HW0:=Hd hW0
 have HB:=Hd hbw
 replace v3:=v3.to hbw
 replace v4:=v4.to hbw
 clear hW0 hbw hp hl v1 v2
 go_enter Tryz.func7,Tryz.ntmps7
 go_wp2_with fail
 rw[<-HW0.out]
 refine HL.out.mono ?_
 rintro e V ⟨rfl,bb⟩
 clear HL HW0
 replace v3:=v3.to bb
 replace v4:=v4.to bb
 replace HB:=Hxb HB bb
 clear bb
 obtain ⟨W1,hW1⟩:∃W1,W1=V.alloc (.cells #[.slice X.A X.es.length X.c,.slice Y.A Y.es.length Y.c] 38):=⟨_,rfl⟩
 have hb1:Below V.heap.size V W1:=by rw[hW1];exact (Below.refl _ _).alloc (Nat.le_refl _) _
 have hp1:Hp W1 V.heap.size (.cells #[.slice X.A X.es.length X.c,.slice Y.A Y.es.length Y.c] 38 (0,0)):=by rw[hW1];exact Hp.new _ _ _
 have HL:=Hd (vlong_any V.heap.size [X,Y] 2 W1 hp1.lt (fun i hi=>by
  match i,hi with
  | 0,_=>exact (hp1.cellAt _).trans rfl
  | 1,_=>exact (hp1.cellAt _).trans rfl) (fun v hv=>by
  simp only[List.mem_cons,List.not_mem_nil,or_false]at hv
  rcases hv with rfl|rfl
  .exact v3.to hb1
  .exact v4.to hb1) (by simp) (r:=true) (by simpa using hm))
 have HW1:=Hd hW1
 replace HB:=Hxb HB hb1
 clear hW1 hb1 hp1 hm v3 v4
 go_wp2_with fail
 rw[<-HW1.out]
 refine HL.out.mono ?_
 rintro e V2 ⟨rfl,bb⟩
 clear HL HW1
 replace HB:=Hxb HB bb
 clear bb
 go_wp2_with fail
 refine (malive_any _).mono ?_
 rintro e V ⟨rfl,bb⟩
 replace HB:=Hxb HB bb
 clear bb
 go_wp2
 go_ret
 exact ⟨rfl,HB.out⟩
theorem mtrans_core {w:World}{A B:MA}{X Y:VA}(v1:MIn w A)(v2:MIn w B)(v3:VIn w X)(v4:VIn w Y){a b:Nat->List Rat}{x y:List Rat}(hl:[A,B].any lngM=false)(hm:[X,Y].any (fun v=>lngV v.es)=false)(xa:Mx w A.P A.N A.C a 6 8)(xb:Mx w B.P B.N B.C b 6 8)(vx:Vy w X.A X.c x 6 20)(vy:Vy w Y.A Y.c y 6 20)(na:A.N<=8)(nb:B.N<=8)(ex:X.es.length=x.length)(ey:Y.es.length=y.length) :
  Calls Tryz.prog 7 #[.slice A.P A.N A.C,.slice B.P B.N B.C,.slice X.A X.es.length X.c,.slice Y.A Y.es.length Y.c] w fun e w'=>e=.returned (.bool true)/\Below w.heap.size w w':=by
 obtain ⟨W0,hW0⟩:∃W0,W0=w.alloc (.cells #[.slice A.P A.N A.C,.slice B.P B.N B.C] 22):=⟨_,rfl⟩
 have hbw:Below w.heap.size w W0:=by rw[hW0];exact (Below.refl _ _).alloc (Nat.le_refl _) _
 have hp:Hp W0 w.heap.size (.cells #[.slice A.P A.N A.C,.slice B.P B.N B.C] 22 (0,0)):=by rw[hW0];exact Hp.new _ _ _
 have HL:=Hd (long4_o (some ⟨w.heap.size,0,none⟩) [A,B] 2 W0 (fun i hi=>by
  match i,hi with
  | 0,_=>exact ⟨_,_,rfl,hp.lt,(hp.cellAt _).trans rfl⟩
  | 1,_=>exact ⟨_,_,rfl,hp.lt,(hp.cellAt _).trans rfl⟩) (fun v hv=>by
  simp only[List.mem_cons,List.not_mem_nil,or_false]at hv
  rcases hv with rfl|rfl
  .exact v1.to hbw
  .exact v2.to hbw) (by simp) (r:=false) (by simpa using hl))
 have HW0:=Hd hW0
 have HB:=Hd hbw
 replace xa:=xa.to hbw
 replace xb:=xb.to hbw
 replace vx:=vx.to hbw
 replace vy:=vy.to hbw
 replace v3:=v3.to hbw
 replace v4:=v4.to hbw
 rw[ex,ey]
 have EX:=Hd ex
 have EY:=Hd ey
 obtain ⟨PA,NA,CA,_⟩:=A
 obtain ⟨PB,NB,CB,_⟩:=B
 dsimp only at xa xb na nb HL HW0 ⊢
 have hca:colsN a NA<=8:=colsN_le xa.mv.l
 have HNA:=Hd na
 have HNB:=Hd nb
 have HCA:=Hd hca
 clear hW0 hbw hp hl v1 v2 na nb hca ex ey
 go_enter Tryz.func7,Tryz.ntmps7
 go_wp2_with fail
 rw[<-HW0.out]
 refine HL.out.mono ?_
 rintro e V ⟨rfl,bb⟩
 clear HL HW0
 replace xa:=xa.to bb
 replace xb:=xb.to bb
 replace vx:=vx.to bb
 replace vy:=vy.to bb
 replace v3:=v3.to bb
 replace v4:=v4.to bb
 replace HB:=Hxb HB bb
 clear bb
 obtain ⟨W1,hW1⟩:∃W1,W1=V.alloc (.cells #[.slice X.A X.es.length X.c,.slice Y.A Y.es.length Y.c] 38):=⟨_,rfl⟩
 have hb1:Below V.heap.size V W1:=by rw[hW1];exact (Below.refl _ _).alloc (Nat.le_refl _) _
 have hp1:Hp W1 V.heap.size (.cells #[.slice X.A X.es.length X.c,.slice Y.A Y.es.length Y.c] 38 (0,0)):=by rw[hW1];exact Hp.new _ _ _
 have HL:=Hd (vlong_any V.heap.size [X,Y] 2 W1 hp1.lt (fun i hi=>by
  match i,hi with
  | 0,_=>exact (hp1.cellAt _).trans rfl
  | 1,_=>exact (hp1.cellAt _).trans rfl) (fun v hv=>by
  simp only[List.mem_cons,List.not_mem_nil,or_false]at hv
  rcases hv with rfl|rfl
  .exact v3.to hb1
  .exact v4.to hb1) (by simp) (r:=false) (by simpa using hm))
 rw[EX.out,EY.out]at hW1
 have HW1:=Hd hW1
 clear v3 v4
 replace xa:=xa.to hb1
 replace xb:=xb.to hb1
 replace vx:=vx.to hb1
 replace vy:=vy.to hb1
 replace HB:=Hxb HB hb1
 clear hW1 hb1 hp1 hm EX EY
 go_wp2_with fail
 rw[<-HW1.out]
 refine HL.out.mono ?_
 rintro e V2 ⟨rfl,bb⟩
 clear HL HW1
 replace xa:=xa.to bb
 replace xb:=xb.to bb
 replace vx:=vx.to bb
 replace vy:=vy.to bb
 replace HB:=Hxb HB bb
 clear bb
 go_wp2_with fail
 refine (turn_x xa 8 (by decide) (by decide) (by have:=HNA.out;have:=HNB.out;have:=HCA.out;omega) (by decide) (by have:=HNA.out;have:=HNB.out;have:=HCA.out;omega)).mono ?_
 rintro e V ⟨_,ny1,_,rfl,hy1,ly1,y1,bb⟩
 replace xa:=xa.to bb
 replace xb:=xb.to bb
 replace vx:=vx.to bb
 replace vy:=vy.to bb
 replace HB:=Hxb HB bb
 clear bb
 go_wp2_with fail
 refine (turn_x y1 8 (by decide) (by decide) (by have:=HNA.out;have:=HNB.out;have:=HCA.out;have:=ly1.out;omega) (by decide) (by have:=HNA.out;have:=HNB.out;have:=HCA.out;have:=ly1.out;omega)).mono ?_
 rintro e V ⟨_,ny2,_,rfl,hy2,ly2,y2,bb⟩
 replace xa:=xa.to bb
 replace xb:=xb.to bb
 replace vx:=vx.to bb
 replace vy:=vy.to bb
 replace y1:=y1.to bb
 replace HB:=Hxb HB bb
 clear bb
 go_wp2_with fail
 refine (equal_x y2 xa (by decide) (by decide) (by have:=HNA.out;have:=HNB.out;have:=HCA.out;have:=ly1.out;have:=ly2.out;omega) (by have:=HNA.out;have:=HNB.out;have:=HCA.out;have:=ly1.out;have:=ly2.out;omega) (by decide) (by decide) (by decide) (by rw[hy2.out,hy1.out];exact turn_turn a NA)).mono ?_
 rintro e V ⟨rfl,bb⟩
 clear y2
 replace xa:=xa.to bb
 replace xb:=xb.to bb
 replace vx:=vx.to bb
 replace vy:=vy.to bb
 replace y1:=y1.to bb
 replace HB:=Hxb HB bb
 clear bb
 go_wp2_with fail
 refine (mul_x xa xb 8 (by have:=HNA.out;have:=HNB.out;have:=HCA.out;have:=ly1.out;have:=ly2.out;omega) (by decide) (by decide) (by have:=HNA.out;have:=HNB.out;have:=HCA.out;have:=ly1.out;have:=ly2.out;omega) (by decide) (by decide) (by decide) (by decide)).mono ?_
 rintro e V ⟨_,_,rfl,y3,bb⟩
 replace xa:=xa.to bb
 replace xb:=xb.to bb
 replace vx:=vx.to bb
 replace vy:=vy.to bb
 replace y1:=y1.to bb
 replace HB:=Hxb HB bb
 clear bb
 go_wp2_with fail
 refine (turn_x y3 8 (by decide) (by decide) (by have:=HNA.out;have:=HNB.out;have:=HCA.out;have:=ly1.out;have:=ly2.out;omega) (by decide) (by have:=HNA.out;have:=HNB.out;have:=HCA.out;have:=ly1.out;have:=ly2.out;omega)).mono ?_
 rintro e V ⟨_,ny4,_,rfl,hy4,ly4,y4,bb⟩
 clear y3
 replace xa:=xa.to bb
 replace xb:=xb.to bb
 replace vx:=vx.to bb
 replace vy:=vy.to bb
 replace y1:=y1.to bb
 replace HB:=Hxb HB bb
 clear bb
 go_wp2_with fail
 refine (turn_x xb 8 (by decide) (by decide) (by have:=HNA.out;have:=HNB.out;have:=HCA.out;have:=ly1.out;have:=ly2.out;have:=ly4.out;omega) (by decide) (by have:=HNA.out;have:=HNB.out;have:=HCA.out;have:=ly1.out;have:=ly2.out;have:=ly4.out;omega)).mono ?_
 rintro e V ⟨_,ny5,_,rfl,hy5,ly5,y5,bb⟩
 clear xb
 replace xa:=xa.to bb
 replace vx:=vx.to bb
 replace vy:=vy.to bb
 replace y1:=y1.to bb
 replace y4:=y4.to bb
 replace HB:=Hxb HB bb
 clear bb
 go_wp2_with fail
 refine (mul_x y5 y1 8 (by have:=HNA.out;have:=HNB.out;have:=HCA.out;have:=ly1.out;have:=ly2.out;have:=ly4.out;have:=ly5.out;omega) (by decide) (by decide) (by have:=HNA.out;have:=HNB.out;have:=HCA.out;have:=ly1.out;have:=ly2.out;have:=ly4.out;have:=ly5.out;omega) (by decide) (by decide) (by decide) (by decide)).mono ?_
 rintro e V ⟨_,_,rfl,y6,bb⟩
 clear y5
 replace xa:=xa.to bb
 replace vx:=vx.to bb
 replace vy:=vy.to bb
 replace y1:=y1.to bb
 replace y4:=y4.to bb
 replace HB:=Hxb HB bb
 clear bb
 go_wp2_with fail
 refine (equal_x y4 y6 (by decide) (by decide) (by have:=HNA.out;have:=HNB.out;have:=HCA.out;have:=ly1.out;have:=ly2.out;have:=ly4.out;have:=ly5.out;omega) (by have:=HNA.out;have:=HNB.out;have:=HCA.out;have:=ly1.out;have:=ly2.out;have:=ly4.out;have:=ly5.out;omega) (by decide) (by decide) (by decide) (by rw[hy4.out,hy5.out,hy1.out];exact trans_mul a b NA NB)).mono ?_
 rintro e V ⟨rfl,bb⟩
 clear y4
 clear y6
 replace xa:=xa.to bb
 replace vx:=vx.to bb
 replace vy:=vy.to bb
 replace y1:=y1.to bb
 replace HB:=Hxb HB bb
 clear bb
 go_wp2_with fail
 refine (mulVec_x y1 vy 8 8 (by decide) (by decide) (by have:=HNA.out;have:=HNB.out;have:=HCA.out;have:=ly1.out;have:=ly2.out;have:=ly4.out;have:=ly5.out;omega) (by decide) (by decide) (by decide) (by decide) (by have:=HNA.out;have:=HNB.out;have:=HCA.out;have:=ly1.out;have:=ly2.out;have:=ly4.out;have:=ly5.out;omega)).mono ?_
 rintro e V ⟨_,_,uy7,rfl,hy7,y7,bb⟩
 clear y1
 replace xa:=xa.to bb
 replace vx:=vx.to bb
 replace vy:=vy.to bb
 replace HB:=Hxb HB bb
 clear bb
 go_wp2_with fail
 refine (vecMul_x vy xa 8 (by decide) (by decide) (by have:=HNA.out;have:=HNB.out;have:=HCA.out;have:=ly1.out;have:=ly2.out;have:=ly4.out;have:=ly5.out;omega) (by decide) (by decide) (by decide) (by decide)).mono ?_
 rintro e V ⟨_,_,uy8,rfl,hy8,y8,bb⟩
 replace xa:=xa.to bb
 replace vx:=vx.to bb
 replace vy:=vy.to bb
 replace y7:=y7.to bb
 replace HB:=Hxb HB bb
 clear bb
 go_wp2_with fail
 refine (vequal_x y7 y8 (by decide) (by decide) (by decide) (by decide) (by decide) (by rw[hy7.out,hy8.out,hy1.out];exact trans_vec a NA y)).mono ?_
 rintro e V ⟨rfl,bb⟩
 clear y7
 clear y8
 replace xa:=xa.to bb
 replace vx:=vx.to bb
 replace vy:=vy.to bb
 replace HB:=Hxb HB bb
 clear bb
 go_wp2_with fail
 refine (mulVec_x xa vx 8 8 (by decide) (by decide) (by have:=HNA.out;have:=HNB.out;have:=HCA.out;have:=ly1.out;have:=ly2.out;have:=ly4.out;have:=ly5.out;omega) (by decide) (by decide) (by decide) (by decide) (by have:=HNA.out;have:=HNB.out;have:=HCA.out;have:=ly1.out;have:=ly2.out;have:=ly4.out;have:=ly5.out;omega)).mono ?_
 rintro e V ⟨_,_,uy9,rfl,hy9,y9,bb⟩
 replace xa:=xa.to bb
 replace vx:=vx.to bb
 replace vy:=vy.to bb
 replace HB:=Hxb HB bb
 clear bb
 go_wp2_with fail
 refine (vdot_x vy y9 20 (by decide) (by decide) (by decide) (by decide) (by decide) (by decide)).mono ?_
 rintro e V ⟨_,_,_,_,ry10,rfl,hy10,y10,bb⟩
 clear y9
 replace xa:=xa.to bb
 replace vx:=vx.to bb
 replace vy:=vy.to bb
 replace HB:=Hxb HB bb
 clear bb
 go_wp2_with fail
 refine (vecMul_x vy xa 8 (by decide) (by decide) (by have:=HNA.out;have:=HNB.out;have:=HCA.out;have:=ly1.out;have:=ly2.out;have:=ly4.out;have:=ly5.out;omega) (by decide) (by decide) (by decide) (by decide)).mono ?_
 rintro e V ⟨_,_,uy11,rfl,hy11,y11,bb⟩
 clear vy
 clear xa
 replace vx:=vx.to bb
 replace y10:=y10.to bb
 replace HB:=Hxb HB bb
 clear bb
 go_wp2_with fail
 refine (vdot_x y11 vx 20 (by decide) (by decide) (by decide) (by decide) (by decide) (by decide)).mono ?_
 rintro e V ⟨_,_,_,_,ry12,rfl,hy12,y12,bb⟩
 clear y11
 clear vx
 replace y10:=y10.to bb
 replace HB:=Hxb HB bb
 clear bb
 go_wp2_with fail
 refine (equal_q y10 y12 (by decide) (by decide) (by decide) (v:=true) (decide_eq_true (by rw[hy10.out,hy12.out,hy9.out,hy11.out];exact trans_dot a NA x y))).mono ?_
 rintro e V ⟨rfl,bb⟩
 clear y10
 clear y12
 replace HB:=Hxb HB bb
 clear bb
 go_wp2_with fail
 refine (malive_any _).mono ?_
 rintro e V ⟨rfl,bb⟩
 replace HB:=Hxb HB bb
 clear bb
 go_wp2
 go_ret
 exact ⟨rfl,HB.out⟩
theorem mtrans_any {w:World}{A B:MA}{X Y:VA}(v1:MIn w A)(v2:MIn w B)(v3:VIn w X)(v4:VIn w Y) :
  Calls Tryz.prog 7 #[.slice A.P A.N A.C,.slice B.P B.N B.C,.slice X.A X.es.length X.c,.slice Y.A Y.es.length Y.c] w fun e w'=>e=.returned (.bool true)/\Below w.heap.size w w':=by
 cases hl:[A,B].any lngM with
 | true=>exact mtrans_long v1 v2 v3 v4 hl
 | false =>
  cases hm:[X,Y].any (fun v=>lngV v.es) with
  | true=>exact mtrans_long2 v1 v2 v3 v4 hl hm
  | false =>
   have hl':=hl
   have hm':=hm
   simp only[List.any_cons,List.any_nil,Bool.or_false,Bool.or_eq_false_iff]at hl' hm'
   obtain ⟨a,ha,na,la⟩:=v1.mi hl'.1
   obtain ⟨b,hb,nb,lb⟩:=v2.mi hl'.2
   obtain ⟨x,hx,lx⟩:=v3.vi hm'.1
   obtain ⟨y,hy,ly⟩:=v4.vi hm'.2
   have q:∀{M:MA} {rs:Nat->List Rat},Mi w M.P M.N M.C rs 6->∀k,k<M.N->∀j,Qm 6 ((rs k).getD j 0):=fun h k hk j=>by
    obtain ⟨b,o,A,c,es,e,h1,h2,h3⟩:=h.row k hk
    exact (h3.el j).qm (by decide)
   exact mtrans_core v1 v2 v3 v4 hl hm ⟨ha,q ha,la⟩ ⟨hb,q hb,lb⟩ ⟨⟨_,hx⟩,fun i=>(hx.el i).qm (by decide),lx⟩ ⟨⟨_,hy⟩,fun i=>(hy.el i).qm (by decide),ly⟩ na nb hx.len hy.len
theorem mtrans_row {w:World}{P0 P1 A2 A3:Option Addr}{N0 N1 C0 C1 c2 c3:Nat}{vs0 vs1:Nat->VA}{es2 es3:List E4}
  (n0:N0<=9223372036854775807) (h0:∀i,i<N0->∃b o,P0=some ⟨b,o,none⟩/\b<w.heap.size/\w.cell? ⟨b,o+i,none⟩=some (.slice (vs0 i).A (vs0 i).es.length (vs0 i).c)) (v0:∀i,i<N0->VIn w (vs0 i))
  (n1:N1<=9223372036854775807) (h1:∀i,i<N1->∃b o,P1=some ⟨b,o,none⟩/\b<w.heap.size/\w.cell? ⟨b,o+i,none⟩=some (.slice (vs1 i).A (vs1 i).es.length (vs1 i).c)) (v1:∀i,i<N1->VIn w (vs1 i))
  (v2:VIn w ⟨A2,c2,es2⟩) (v3:VIn w ⟨A3,c3,es3⟩) :
  Calls Tryz.prog 7 #[.slice P0 N0 C0,.slice P1 N1 C1,.slice A2 es2.length c2,.slice A3 es3.length c3] w fun e w'=>e=.returned (.bool true)/\Below w.heap.size w w' :=
 mtrans_any (A:=⟨P0,N0,C0,vs0⟩) (B:=⟨P1,N1,C1,vs1⟩) (X:=⟨A2,c2,es2⟩) (Y:=⟨A3,c3,es3⟩) ⟨h0,v0,n0⟩ ⟨h1,v1,n1⟩ v2 v3
end Go.Proofs.YtglhdielkkhefaaGreat
