/- Parts: 2. -/
import Derived.Test.YtglhdielkkhefaaGreatMr15
import Derived.Test.YtglhdielkkhefaaGreatMr17
import Derived.Test.YtglhdielkkhefaaGreatMr18
set_option linter.unusedVariables false
set_option linter.unusedSimpArgs false
set_option maxRecDepth 100000
set_option maxHeartbeats 40000000

namespace Go.Proofs.YtglhdielkkhefaaGreat
open Go.RowKit Go.Shelf
theorem turn1_m {w:World}{g i:Nat}{P:Option Addr}{N C m:Nat}{rs:Nat->List Rat}(hg:w.cell? ⟨g,0,none⟩=some (.slice P N C))(hM:Mi w P N C rs m)(hm:m<=10000)(hl:N+1<=1000000)(hr:∀i,i<N->(rs i).length<=4398046511104) :
  Calls Tryz.prog 67 #[.int .i64 (i:Int),.pointer (some ⟨g,0,none⟩)] w (VR w (tab N (fun k=>(rs k).getD i 0))):=by
 have HC:=Hd (column_m (j:=i) hM hm hl hr)
 clear hM hm hl hr
 go_enter Tryz.func67,Tryz.ntmps67
 go_wp2_with fail
 refine HC.out.mono ?_
 rintro e V ⟨A1,c1,fl,rfl,hv,bb⟩
 have HB:=Hd bb
 clear bb hg
 go_wp2
 go_ret
 exact ⟨A1,c1,fl,rfl,hv,HB.out⟩
theorem turn_m {w:World}{P:Option Addr}{N C m:Nat}{rs:Nat->List Rat}(hM:Mi w P N C rs m)(hm:m<=10000)(hl:N+1<=1000000)(hr:∀i,i<N->(rs i).length+1<=1000000) :
  Calls Tryz.prog 23 #[.slice P N C] w (MR w (colsN rs N) (fun i=>tab N (fun k=>(rs k).getD i 0))):=by
 have hr2:∀i,i<N->(rs i).length<=4398046511104:=fun i hi=>by have:=hr i hi;omega
 have hc:colsN rs N<=999999:=colsN_le (fun k hk=>by have:=hr k hk;omega)
 obtain ⟨W0,hW0⟩:∃W0,W0=w.alloc (.cells #[.slice P N C] 22):=⟨_,rfl⟩
 have hbw:Below w.heap.size w W0:=by rw[hW0];exact (Below.refl _ _).alloc (Nat.le_refl _) _
 have hp:Hp W0 w.heap.size (.cells #[.slice P N C] 22 (0,0)):=by rw[hW0];exact Hp.new _ _ _
 have hM0:=hM.to hbw
 have HC:=Hd (cols_m (C:=C) hM0.rs (by omega) (fun i hi=>Nat.le_trans (hr2 i hi) (by decide)))
 have HF:=Hd (fun (V:World) (hV:Below W0.heap.size W0 V)=>fill_m (w:=V) (N:=colsN rs N) (F:=67) (caps:=#[.pointer (some ⟨w.heap.size,0,none⟩)]) (rs:=fun i=>tab N (fun k=>(rs k).getD i 0)) (by omega) (callf_enter Tryz.func67 (by kernel_rfl) (by kernel_rfl)) (fun U hU i hi=>turn1_m ((hp.to hV).to hU).one ((hM0.to hV).to hU) hm hl hr2))
 have q0:=hp.one
 have HB:=Hd hbw
 have HW0:=Hd hW0
 rw[hW0]at q0
 clear hM hm hl hr hr2 hc hp hM0 hW0 hbw
 go_enter Tryz.func23,Tryz.ntmps23
 go_wp2_with fail
 rw[<-HW0.out]at q0 ⊢
 clear HW0
 refine HC.out.mono ?_
 rintro e V ⟨rfl,bb⟩
 have HBV:=Hd bb
 clear bb HC q0
 go_wp2_with fail
 refine (HF.out V HBV.out).mono ?_
 rintro e X ⟨P2,C2,rfl,hm2,b2⟩
 have HE:=Hd ((HB.out.trans (HBV.out.mono HB.out.size)).trans (b2.mono (HB.out.trans (HBV.out.mono HB.out.size)).size))
 clear b2
 go_wp2
 go_ret
 exact ⟨P2,C2,rfl,hm2,HE.out⟩
def rowMul (ys:List Rat)(rs:Nat->List Rat)(N:Nat)(j:Nat):Rat:=sumF (fun i=>ys.getD i 0*(rs i).getD j 0) (min ys.length N)
theorem vecMul_m {w:World}{A' P:Option Addr}{c' N C l m:Nat}{fs:List E4}{ys:List Rat}{rs:Nat->List Rat}(hY:Vi w A' c' fs ys l)(hM:Mi w P N C rs m)(hl0:0<l)(hm:0<m)(hr:∀k,k<N->(rs k).length<=4398046511104)(hN:N<=9223372036854775806)(hy:ys.length<=4398046511104)
  (hb0:(min ys.length N)*(l+m+1)+1+(l+m)+1<=10000) :
  Calls Tryz.prog 40 #[.slice A' ys.length c',.slice P N C] w (VR w (tab (colsN rs N) (rowMul ys rs N))):=by
 have HC:=Hd (cols_m (C:=C) hM.rs hN (fun i hi=>Nat.le_trans (hr i hi) (by decide)))
 have HF:=Hd (fun (V:World) (hV:Below w.heap.size w V)=>ws_v (c':=c') (C:=C) (L:=colsN rs N) (hY.to hV) (hM.to hV) hl0 hm (colsN_le hr) (fun k hk=>colsN_ge rs hk) hy hb0)
 clear hY hM hl0 hm hr hN hy hb0
 go_enter Tryz.func40,Tryz.ntmps40
 go_wp2_with fail
 refine HC.out.mono ?_
 rintro e V ⟨rfl,bb⟩
 have HB:=Hd bb
 clear bb HC
 go_wp2_with fail
 refine (HF.out V HB.out).mono ?_
 rintro e X ⟨A2,c2,fl,rfl,hv,b2⟩
 have HE:=Hxb HB b2
 clear b2
 go_wp2
 go_ret
 exact ⟨A2,c2,fl,rfl,hv,HE.out⟩
theorem mul1_m {w:World}{g1 g2 g3 i:Nat}{P Q:Option Addr}{N C M D L m l:Nat}{rs ss:Nat->List Rat}(h1:w.cell? ⟨g1,0,none⟩=some (.slice P N C))(h2:w.cell? ⟨g2,0,none⟩=some (.slice Q M D))(h3:w.cell? ⟨g3,0,none⟩=some (.int .i64 (L:Int)))(hM:Mi w P N C rs m)(hB:Mi w Q M D ss l)(hi:i<N)(hm:0<m)(hl:0<l)
  (hL:L<=4398046511104) (hlen:∀k,k<M->(ss k).length<=L) (hy:(rs i).length<=4398046511104) (hb0:(min (rs i).length M)*(m+l+1)+1+(m+l)+1<=10000) :
  Calls Tryz.prog 72 #[.int .i64 (i:Int),.pointer (some ⟨g1,0,none⟩),.pointer (some ⟨g2,0,none⟩),.pointer (some ⟨g3,0,none⟩)] w (VR w (tab L (rowMul (rs i) ss M))):=by
 have l1:=World.block_lt_of_cell? w _ h1
 have l2:=World.block_lt_of_cell? w _ h2
 have l3:=World.block_lt_of_cell? w _ h3
 have hN63:=hM.n63
 obtain ⟨b,o,A,c,es,rfl,hb1,hc,hv⟩:=hM.row i hi
 have F1:Hid (∀V,Below w.heap.size w V->V.cell? ⟨g1,0,none⟩=some (.slice (some ⟨b,o,none⟩) N C)):=fun V hV=>(hV.cell (p:=⟨g1,_,none⟩) l1).trans h1
 have F2:Hid (∀V,Below w.heap.size w V->V.cell? ⟨g2,0,none⟩=some (.slice Q M D)):=fun V hV=>(hV.cell (p:=⟨g2,_,none⟩) l2).trans h2
 have F3:Hid (∀V,Below w.heap.size w V->V.cell? ⟨g3,0,none⟩=some (.int .i64 (L:Int))):=fun V hV=>(hV.cell (p:=⟨g3,_,none⟩) l3).trans h3
 have F4:Hid (∀V,Below w.heap.size w V->V.cell? ⟨b,o+i,none⟩=some (.slice A (rs i).length c)):=fun V hV=>(hV.cell (p:=⟨b,_,none⟩) hb1).trans hc
 have HW:=Hd (fun (V:World) (hV:Below w.heap.size w V)=>ws_v (c':=c) (C:=D) (L:=L) (hv.to hV) (hB.to hV) hm hl hL hlen hy hb0)
 have hi1:(0:Int)<=(i:Int):=by omega
 have hi2:(i:Int)<(N:Int):=by omega
 clear h1 h2 h3 hM hB hi hm hl hL hlen hy hb0 l1 l2 l3 hb1 hc hv
 go_enter Tryz.func72,Tryz.ntmps72
 go_wp2_with fail
 refine wp_region_plan (S:=fun w'=>Below w.heap.size w w') [(0,true),(1,true),(2,true),(3,true),(4,true),(5,true),(6,false),(7,true)] (by kernel_rfl) (by kernel_rfl) (Below.refl w.heap.size w).drew ?_
 have hb:=(Below.refl w.heap.size w).drew
 refine plan_take (v:=?_) rfl (by rfl) ?_ ?_;rotate_left;(focus (intro w' hS;have k1:=F1.out w' hS;go_simp;try with_reducible rfl));simp only[Act.put,List.setIfInBounds_toArray,List.set_cons_zero,List.set_cons_succ]
 iterate 2 (refine plan_take (v:=?_) rfl (by rfl) ?_ ?_;rotate_left;(focus (intro w' _;go_simp;try with_reducible rfl));simp only[Act.put,List.setIfInBounds_toArray,List.set_cons_zero,List.set_cons_succ])
 refine plan_take (v:=?_) rfl (by rfl) ?_ ?_;rotate_left;(focus (intro w' hS;have k1:=F4.out w' hS;go_simp;try with_reducible rfl));simp only[Act.put,List.setIfInBounds_toArray,List.set_cons_zero,List.set_cons_succ]
 refine plan_take (v:=?_) rfl (by rfl) ?_ ?_;rotate_left;(focus (intro w' hS;have k1:=F2.out w' hS;go_simp;try with_reducible rfl));simp only[Act.put,List.setIfInBounds_toArray,List.set_cons_zero,List.set_cons_succ]
 refine plan_take (v:=?_) rfl (by rfl) ?_ ?_;rotate_left;(focus (intro w' hS;have k1:=F3.out w' hS;go_simp;try with_reducible rfl));simp only[Act.put,List.setIfInBounds_toArray,List.set_cons_zero,List.set_cons_succ]
 refine plan_call rfl (by rfl) (fun K hK=>?_)
 go_simp
 refine (HW.out _ hb).mono ?_
 rintro e V ⟨A2,c2,fl,rfl,hv,bb⟩
 replace hb:=Bxb hb bb
 refine hK.out _ _ hb ?_
 clear hK K bb
 refine plan_take (v:=?_) rfl (by rfl) ?_ ?_;rotate_left;(focus (intro w' _;go_simp;try with_reducible rfl));simp only[Act.put,List.setIfInBounds_toArray,List.set_cons_zero,List.set_cons_succ]
 refine plan_done ?_
 have HE:=Hd hb
 have HV:=Hd hv
 clear hb hv F1 F2 F3 F4 HW
 go_wp2
 go_ret
 exact ⟨A2,c2,fl,rfl,HV.out,HE.out⟩
theorem mul_m {w:World}{P Q:Option Addr}{N C M D m l:Nat}{rs ss:Nat->List Rat}(hM:Mi w P N C rs m)(hB:Mi w Q M D ss l)(hm:0<m)(hl:0<l)(hN:N+1<=1000000)(hMM:M<=9223372036854775806)(hr:∀k,k<N->(rs k).length<=4398046511104)(hs:∀k,k<M->(ss k).length<=4398046511104)
  (hb0:∀i,i<N->(min (rs i).length M)*(m+l+1)+1+(m+l)+1<=10000) :
  Calls Tryz.prog 29 #[.slice P N C,.slice Q M D] w (MR w N (fun i=>tab (colsN ss M) (rowMul (rs i) ss M))):=by
 have hc:colsN ss M<=4398046511104:=colsN_le hs
 obtain ⟨W0,hW0⟩:∃W0,W0=(w.alloc (.cells #[.slice P N C] 22)).alloc (.cells #[.slice Q M D] 22):=⟨_,rfl⟩
 have hbw:Below w.heap.size w W0:=by rw[hW0];exact ((Below.refl _ _).alloc (Nat.le_refl _) _).alloc (by simp) _
 have hp:Hp W0 w.heap.size (.cells #[.slice P N C] 22 (0,0)):=by rw[hW0];exact (Hp.new _ _ _).alloc _
 have hq:Hp W0 (w.heap.size+1) (.cells #[.slice Q M D] 22 (0,0)):=by
  have h:=Hp.new (w.alloc (.cells #[.slice P N C] 22)) #[.slice Q M D] 22
  rw[World.size_alloc]at h
  rw[hW0];exact h
 have hM0:=hM.to hbw
 have hB0:=hB.to hbw
 have HC:=Hd (cols_m (C:=D) hB0.rs hMM (fun i hi=>Nat.le_trans (hs i hi) (by decide)))
 have HF:=Hd (fun (V:World) (hV:Below W0.heap.size W0 V) (g3:Nat) (h3:Hp V g3 (.cells #[.int .i64 (colsN ss M:Nat)] 3 (0,0)))=>fill_m (w:=V) (N:=N) (F:=72) (caps:=#[.pointer (some ⟨w.heap.size,0,none⟩),.pointer (some ⟨w.heap.size+1,0,none⟩),.pointer (some ⟨g3,0,none⟩)]) (rs:=fun i=>tab (colsN ss M) (rowMul (rs i) ss M)) hN (callf_enter Tryz.func72 (by kernel_rfl) (by kernel_rfl)) (fun U hU i hi=>mul1_m ((hp.to hV).to hU).one ((hq.to hV).to hU).one (h3.to hU).one ((hM0.to hV).to hU) ((hB0.to hV).to hU) hi hm hl hc (fun k hk=>colsN_ge ss hk) (hr i hi) (hb0 i hi)))
 have q0:=hp.one
 have q1:=hq.one
 have HP:=Hd hp
 have HB:=Hd hbw
 have HW0:=Hd hW0
 rw[hW0]at q1
 clear hM hB hm hl hN hMM hr hs hb0 hc hp hq hM0 hB0 hW0 hbw q0
 go_enter Tryz.func29,Tryz.ntmps29
 go_wp2_with fail
 rw[<-HW0.out]at q1 ⊢
 clear HW0
 refine HC.out.mono ?_
 rintro e V ⟨rfl,bb⟩
 have HBV:=Hd bb
 have q0:=(HP.out.to bb).one
 clear bb HC q1 HP
 have bb1:Below V.heap.size V (V.alloc (.cells #[.int .i64 (colsN ss M:Nat)] 3)):=(Below.refl _ _).alloc (Nat.le_refl _) _
 have h3:=Hp.new V #[.int .i64 (colsN ss M:Nat)] 3
 have q2:=(Hd ((HBV.out.trans (bb1.mono HBV.out.size)).cell (p:=⟨w.heap.size,0,none⟩)))
 clear q2
 have q3:=(bb1.cell (p:=⟨w.heap.size,0,none⟩) (World.block_lt_of_cell? V _ q0)).trans q0
 have HFV:=Hd (HF.out _ (HBV.out.trans (bb1.mono HBV.out.size)) _ h3)
 have HB2:=Hd ((HB.out.trans (HBV.out.mono HB.out.size)).trans (bb1.mono (HB.out.trans (HBV.out.mono HB.out.size)).size))
 clear HF bb1 h3 q0
 go_wp2_with fail
 refine HFV.out.mono ?_
 rintro e X ⟨P2,C2,rfl,hm2,b2⟩
 have HE:=Hxb HB2 b2
 clear b2
 go_wp2
 go_ret
 exact ⟨P2,C2,rfl,hm2,HE.out⟩
attribute [local go_sem] Oper.semAt_some
def Rw (W:World)(B:Nat)(P:Option Addr)(N:Nat)(vs:Nat->Value):Prop:=∀k,k<N->∃b o,P=some ⟨b,o,none⟩/\b<B/\W.cell? ⟨b,o+k,none⟩=some (vs k)
def rvA (N:Nat)(vs:Nat->Value)(k:Nat):Value:=if k<N then vs k else .slice none 0 0
def rowE (N M:Nat)(vs us:Nat->Value)(k:Nat):Array Value:=#[rvA N vs k,rvA M us k]
theorem Rw.keepAt {w w':World}{B N:Nat}{S:Addr->Prop}{P:Option Addr}{vs:Nat->Value}(h:Rw w B P N vs)(hS:∀p:Addr,p.block<B->S p)(hk:KeepAt S w w'):Rw w' B P N vs:=fun k hk'=>by
 obtain ⟨b,o,e,hb,h0⟩:=h k hk'
 exact ⟨b,o,e,hb,(hk ⟨b,_,none⟩ (hS ⟨b,_,none⟩ hb)).trans h0⟩
theorem Rw.below {w w':World}{B N:Nat}{P:Option Addr}{vs:Nat->Value}(h:Rw w B P N vs)(hb:Below B w w'):Rw w' B P N vs:=fun k hk'=>by
 obtain ⟨b,o,e,hb',h0⟩:=h k hk'
 exact ⟨b,o,e,hb',(hb.cell (p:=⟨b,_,none⟩) hb').trans h0⟩
theorem Rw.grow {w w':World}{B N:Nat}{P:Option Addr}{vs:Nat->Value}(h:Rw w B P N vs)(hb:Below w.heap.size w w'):Rw w' B P N vs:=fun k hk'=>by
 obtain ⟨b,o,e,hb',h0⟩:=h k hk'
 exact ⟨b,o,e,hb',(hb.cell (p:=⟨b,_,none⟩) (World.block_lt_of_cell? w _ h0)).trans h0⟩
theorem rvA_s {N:Nat}{vs:Nat->Value}(h:∀i,IsS (vs i))(k:Nat):IsS (rvA N vs k):=by
 unfold rvA
 split
 .exact h k
 .exact ⟨_,_,_,rfl⟩
theorem rowAt_v {w:World}{B N C k:Nat}{P:Option Addr}{vs:Nat->Value}(h:Rw w B P N vs)(hS:∀i,IsS (vs i))(hN:N<=9223372036854775807) :
  Calls Tryz.prog 53 #[.slice P N C,.int .i64 (k:Int)] w fun e w'=>e=.returned (rvA N vs k)/\Below w.heap.size w w':=by
 have h0:(0:Int)<=(k:Int):=by omega
 have h1:¬(k:Int)<0:=by omega
 by_cases hk:k<N
 .obtain ⟨b,o,rfl,hb,hc⟩:=h k hk
  have e:rvA N vs k=vs k:=if_pos hk
  rw[e]
  obtain ⟨A,n,c,e2⟩:=hS k
  rw[e2]at hc ⊢
  have h2:¬(N:Int)<=(k:Int):=by omega
  have h3:(k:Int)<(N:Int):=by omega
  clear hk h e e2 hS
  go_enter Tryz.func53,Tryz.ntmps53
  go_wp2
  go_ret
  exact ⟨rfl,Below.refl _ _⟩
 .have e:rvA N vs k=.slice none 0 0:=if_neg hk
  rw[e]
  have h2:(N:Int)<=(k:Int):=by omega
  clear hk h e hS
  go_enter Tryz.func53,Tryz.ntmps53
  go_wp2
  go_ret
  exact ⟨rfl,Below.refl _ _⟩
theorem rpairs_gives (Bx By B c c' L1 L2:Nat)(A A':Option Addr)(vs us:Nat->Value)(hx63:L1<=9223372036854775807)(hy63:L2<=9223372036854775807)(W:World)
  (hbx:W.cell? ⟨Bx,0,none⟩=some (.slice A L1 c)) (hby:W.cell? ⟨By,0,none⟩=some (.slice A' L2 c')) (hx:Rw W B A L1 vs) (hy:Rw W B A' L2 us) (qx:∀i,IsS (vs i)) (qy:∀i,IsS (us i)) :
  GivesB Tryz.prog 101 #[.pointer (some ⟨Bx,0,none⟩),.pointer (some ⟨By,0,none⟩)] (max L1 L2) (rowE L1 L2 vs us) (pairS Bx By B) W:=by
 intro l J Jx hst hY h0
 refine callsIn_of_wp Tryz.func101 rfl trivial ?_ rfl
 simp only[Tryz.ntmps101,List.size_toArray,List.length_cons,List.length_nil,Nat.reduceAdd,Nat.reduceSub,Array.replicate_succ,Array.replicate_zero,List.push_toArray,List.append_toArray,List.nil_append,List.cons_append]
 obtain ⟨N,hN⟩:∃N,max L1 L2=N:=⟨_,rfl⟩
 have hN63:N<=9223372036854775807:=by omega
 rw[hN]at hY ⊢
 have HN:=Hd hN
 have HST:=Hd hst
 have HYY:=Hd hY
 have QX:=Hd qx
 have QY:=Hd qy
 have HX63:=Hd hx63
 have HY63:=Hd hy63
 clear hst hY qx qy
 rcases Nat.lt_or_ge L1 L2 with hle|hle
 rotate_left
 .have hE:L1=N:=by omega
  subst hE
  clear hN
  gi_wp2
  gi_loopw [10] (fun i wr=>∃k:Nat,i=.int .i64 k/\k<=L1/\J k wr/\wr.cell? ⟨Bx,0,none⟩=some (.slice A L1 c)/\wr.cell? ⟨By,0,none⟩=some (.slice A' L2 c')/\Rw wr B A L1 vs/\Rw wr B A' L2 us)
   (fun i _=>L1-(intOf i).toNat)
  case atStart=>exact ⟨0,rfl,Nat.zero_le _,h0,hbx,hby,hx,hy⟩
  case round =>
   obtain ⟨k,rfl,hk,hJ,cx,cy,rx,ry⟩:=hrel
   clear hbx hby hx hy h0
   have klx:Bx<wr.heap.size:=World.block_lt_of_cell? wr _ cx
   have kly:By<wr.heap.size:=World.block_lt_of_cell? wr _ cy
   by_cases hlt:k<L1
   .have hlt':(k:Int)<(L1:Nat):=by omega
    have hdec:decide ((k:Int)<max (L1:Int) (L2:Int))=true:=decide_eq_true (by omega)
    have HX:=Hd (fun (V:World) (hV:Below wr.heap.size wr V)=>rowAt_v (C:=c) (k:=k) (rx.grow hV) QX.out HX63.out)
    have HY:=Hd (fun (V:World) (hV:Below wr.heap.size wr V)=>rowAt_v (C:=c') (k:=k) (ry.grow hV) QY.out HY63.out)
    have HJ:=Hd (fun (V:World) (hV:Below wr.heap.size wr V)=>HYY.out k V hlt (HST.out k _ _ hJ hV))
    have next:∀V W3,Below wr.heap.size wr V->J (k+1) W3->KeepAt (pairS Bx By B) V W3->(∃k':Nat,(Value.int .i64 ((k:Int)+1))=.int .i64 k'/\k'<=L1/\J k' W3/\W3.cell? ⟨Bx,0,none⟩=some (.slice A L1 c)/\W3.cell? ⟨By,0,none⟩=some (.slice A' L2 c')/\Rw W3 B A L1 vs/\Rw W3 B A' L2 us) :=
     fun V W3 hV hJ3 hk3=>⟨k+1,by simp,by omega,hJ3,(hk3 _ (.inl rfl)).trans ((hV.cell (p:=⟨Bx,0,none⟩) klx).trans cx),(hk3 _ (.inr (.inl rfl))).trans ((hV.cell (p:=⟨By,0,none⟩) kly).trans cy),(rx.grow hV).keepAt (fun p hp=>.inr (.inr hp)) hk3,(ry.grow hV).keepAt (fun p hp=>.inr (.inr hp)) hk3⟩
    have NEXT:=Hd next
    have HEND:=Hd hlt
    have CX:=Hd (fun (V:World) (hV:Below wr.heap.size wr V)=>(hV.cell (p:=⟨Bx,0,none⟩) klx).trans cx)
    have CY:=Hd (fun (V:World) (hV:Below wr.heap.size wr V)=>(hV.cell (p:=⟨By,0,none⟩) kly).trans cy)
    clear next rx ry cx cy hlt klx kly
    obtain ⟨X,hX⟩:∃X,rvA L1 vs k=X:=⟨_,rfl⟩
    obtain ⟨Y,hY⟩:∃Y,rvA L2 us k=Y:=⟨_,rfl⟩
    unfold rowE at HJ
    rw[hX]at HX HJ
    rw[hY]at HY HJ
    clear hX hY
    gi_wp2_with fail
    refine wpIn_region_any follows ?_
    refine wpAnyIn_take (i:=0) (v:=.func (.yield l) #[] #[]) rfl rfl (by kernel_rfl) (by kernel_rfl) (by kernel_rfl) (fun _ _ _ h=>h) ⟨Or.inl ⟨by rfl,fun w=>by go_simp⟩,fun _=>rfl⟩ ?_
    refine wpAnyIn_take (i:=2) (v:=.int .i64 (k:Int)) rfl rfl (by kernel_rfl) (by kernel_rfl) (by kernel_rfl) (fun _ _ _ h=>h) ⟨Or.inl ⟨by rfl,fun w=>by go_simp⟩,fun _=>rfl⟩ ?_
    refine wpAnyIn_take (i:=5) (v:=.int .i64 (k:Int)) rfl rfl (by kernel_rfl) (by kernel_rfl) (by kernel_rfl) (fun _ _ _ h=>h) ⟨Or.inl ⟨by rfl,fun w=>by go_simp⟩,fun _=>rfl⟩ ?_
    refine dagInE 6 #[true,false,true,false,false,true,false,false,false] ⟨#[.func (.yield l) #[] #[],.pointer (some ⟨Bx,0,none⟩),.pointer (some ⟨By,0,none⟩),undef,.int .i64 (k:Int),.slice A L1 c,.int .i64 (L1:Int),.slice A' L2 c',.int .i64 (L2:Int),.int .i64 (max (L1:Int) (L2:Int)),.int .i64 (k:Int),.bool true,.int .i64 (k:Int),.func (.yield l) #[] #[],u14,.int .i64 (k:Int),u16,u17,.int .i64 (k:Int),u19,u20,u21,u22],[]⟩ (by kernel_rfl) (by kernel_rfl) (by rfl) (fun G up dn=>?_)
    have S1346:∀V,Below wr.heap.size wr V->G 2 #[true,true,true,true,true,true,true,false,false] ⟨#[.func (.yield l) #[] #[],.pointer (some ⟨Bx,0,none⟩),.pointer (some ⟨By,0,none⟩),undef,.int .i64 (k:Int),.slice A L1 c,.int .i64 (L1:Int),.slice A' L2 c',.int .i64 (L2:Int),.int .i64 (max (L1:Int) (L2:Int)),.int .i64 (k:Int),.bool true,.int .i64 (k:Int),.func (.yield l) #[] #[],.slice A L1 c,.int .i64 (k:Int),X,.slice A' L2 c',.int .i64 (k:Int),Y,u20,u21,u22],[]⟩ V:=by
     intro V hV
     refine up ?_
     obtain ⟨fn,tmps,assign,body,hyy,hR⟩:=HJ.out V hV
     refine rdyI (i:=7) (by kernel_rfl) rfl (fun K hK=>?_)
     go_simp
     gi_wp2
     refine hR.mono ?_
     rintro e W3 (⟨rfl,hJ3,hk3⟩|⟨rfl,hJx3⟩)
     .refine hK _ _ ?_
      clear hK K
      refine rdyI (i:=8) (by kernel_rfl) rfl (fun K hK=>?_)
      go_simp
      refine hK _ _ ?_
      clear hK K
      refine wpAnyIn_done (by kernel_rfl) ?_ _
      gi_wp2
      go_roundw
      case rel=>exact NEXT.out V W3 hV hJ3 hk3
      case measure=>have:=HEND.out;simp[intOf];omega
     .refine hK _ _ ?_
      clear hK K
      refine rdyI (i:=8) (by kernel_rfl) rfl (fun K hK=>?_)
      go_simp
      refine hK _ _ ?_
      clear hK K
      refine wpAnyIn_done (by kernel_rfl) ?_ _
      gi_wp2
      refine bodyPost_ret (results_none rfl _ _ _) rfl ?_
      exact ⟨⟨_,rfl⟩,.inr ⟨k,HEND.out,hJx3⟩⟩
    have S134:∀V,Below wr.heap.size wr V->G 3 #[true,true,true,true,true,true,false,false,false] ⟨#[.func (.yield l) #[] #[],.pointer (some ⟨Bx,0,none⟩),.pointer (some ⟨By,0,none⟩),undef,.int .i64 (k:Int),.slice A L1 c,.int .i64 (L1:Int),.slice A' L2 c',.int .i64 (L2:Int),.int .i64 (max (L1:Int) (L2:Int)),.int .i64 (k:Int),.bool true,.int .i64 (k:Int),.func (.yield l) #[] #[],.slice A L1 c,.int .i64 (k:Int),X,.slice A' L2 c',.int .i64 (k:Int),u19,u20,u21,u22],[]⟩ V:=by
     intro V hV
     refine up ?_
     refine rdyI (i:=6) (by kernel_rfl) rfl (fun K hK=>?_)
     go_simp
     gi_wp2_with (refine ⟨trivial,?_⟩;gi_at_call 53;refine (callsIn_wide.2 (HY.out V hV)).mono ?_;rintro e w' ⟨rfl,bb⟩)
     exact dn (S1346 _ (Bxb hV bb))
    have S14:∀V,Below wr.heap.size wr V->G 4 #[true,true,true,false,true,true,false,false,false] ⟨#[.func (.yield l) #[] #[],.pointer (some ⟨Bx,0,none⟩),.pointer (some ⟨By,0,none⟩),undef,.int .i64 (k:Int),.slice A L1 c,.int .i64 (L1:Int),.slice A' L2 c',.int .i64 (L2:Int),.int .i64 (max (L1:Int) (L2:Int)),.int .i64 (k:Int),.bool true,.int .i64 (k:Int),.func (.yield l) #[] #[],.slice A L1 c,.int .i64 (k:Int),u16,.slice A' L2 c',.int .i64 (k:Int),u19,u20,u21,u22],[]⟩ V:=by
     intro V hV
     refine up ?_
     refine rdyI (i:=3) (by kernel_rfl) rfl (fun K hK=>?_)
     go_simp
     gi_wp2_with (refine ⟨trivial,?_⟩;gi_at_call 53;refine (callsIn_wide.2 (HX.out V hV)).mono ?_;rintro e w' ⟨rfl,bb⟩)
     exact dn (S134 _ (Bxb hV bb))
    have S13:∀V,Below wr.heap.size wr V->G 4 #[true,true,true,true,false,true,false,false,false] ⟨#[.func (.yield l) #[] #[],.pointer (some ⟨Bx,0,none⟩),.pointer (some ⟨By,0,none⟩),undef,.int .i64 (k:Int),.slice A L1 c,.int .i64 (L1:Int),.slice A' L2 c',.int .i64 (L2:Int),.int .i64 (max (L1:Int) (L2:Int)),.int .i64 (k:Int),.bool true,.int .i64 (k:Int),.func (.yield l) #[] #[],.slice A L1 c,.int .i64 (k:Int),X,u17,.int .i64 (k:Int),u19,u20,u21,u22],[]⟩ V:=by
     intro V hV
     refine up ?_
     refine rdyI (i:=4) (by kernel_rfl) rfl (fun K hK=>?_)
     have cc:=CY.out V hV
     go_simp
     refine hK _ _ ?_
     exact dn (S134 V hV)
    have S1:∀V,Below wr.heap.size wr V->G 5 #[true,true,true,false,false,true,false,false,false] ⟨#[.func (.yield l) #[] #[],.pointer (some ⟨Bx,0,none⟩),.pointer (some ⟨By,0,none⟩),undef,.int .i64 (k:Int),.slice A L1 c,.int .i64 (L1:Int),.slice A' L2 c',.int .i64 (L2:Int),.int .i64 (max (L1:Int) (L2:Int)),.int .i64 (k:Int),.bool true,.int .i64 (k:Int),.func (.yield l) #[] #[],.slice A L1 c,.int .i64 (k:Int),u16,u17,.int .i64 (k:Int),u19,u20,u21,u22],[]⟩ V:=by
     intro V hV
     refine up ?_
     refine wpAnyIn_ready (rs:=[3,4]) (by kernel_rfl) (by simp) (AllReadyIn.cons rfl (fun K hK=>?_) (AllReadyIn.cons rfl (fun K hK=>?_) AllReadyIn.nil))
     .go_simp
      gi_wp2_with (refine ⟨trivial,?_⟩;gi_at_call 53;refine (callsIn_wide.2 (HX.out V hV)).mono ?_;rintro e w' ⟨rfl,bb⟩)
      exact dn (S13 _ (Bxb hV bb))
     .have cc:=CY.out V hV
      go_simp
      refine hK _ _ ?_
      exact dn (S14 V hV)
    have S4:∀V,Below wr.heap.size wr V->G 5 #[true,false,true,false,true,true,false,false,false] ⟨#[.func (.yield l) #[] #[],.pointer (some ⟨Bx,0,none⟩),.pointer (some ⟨By,0,none⟩),undef,.int .i64 (k:Int),.slice A L1 c,.int .i64 (L1:Int),.slice A' L2 c',.int .i64 (L2:Int),.int .i64 (max (L1:Int) (L2:Int)),.int .i64 (k:Int),.bool true,.int .i64 (k:Int),.func (.yield l) #[] #[],u14,.int .i64 (k:Int),u16,.slice A' L2 c',.int .i64 (k:Int),u19,u20,u21,u22],[]⟩ V:=by
     intro V hV
     refine up ?_
     refine rdyI (i:=1) (by kernel_rfl) rfl (fun K hK=>?_)
     have cc:=CX.out V hV
     go_simp
     refine hK _ _ ?_
     exact dn (S14 V hV)
    have S:∀V,Below wr.heap.size wr V->G 6 #[true,false,true,false,false,true,false,false,false] ⟨#[.func (.yield l) #[] #[],.pointer (some ⟨Bx,0,none⟩),.pointer (some ⟨By,0,none⟩),undef,.int .i64 (k:Int),.slice A L1 c,.int .i64 (L1:Int),.slice A' L2 c',.int .i64 (L2:Int),.int .i64 (max (L1:Int) (L2:Int)),.int .i64 (k:Int),.bool true,.int .i64 (k:Int),.func (.yield l) #[] #[],u14,.int .i64 (k:Int),u16,u17,.int .i64 (k:Int),u19,u20,u21,u22],[]⟩ V:=by
     intro V hV
     refine up ?_
     refine wpAnyIn_ready (rs:=[1,4]) (by kernel_rfl) (by simp) (AllReadyIn.cons rfl (fun K hK=>?_) (AllReadyIn.cons rfl (fun K hK=>?_) AllReadyIn.nil))
     .have cc:=CX.out V hV
      go_simp
      refine hK _ _ ?_
      exact dn (S1 V hV)
     .have cc:=CY.out V hV
      go_simp
      refine hK _ _ ?_
      exact dn (S4 V hV)
    exact S _ (Below.refl _ _).drew
   .have hE:L1=k:=by omega
    subst hE
    gi_wp2
    go_end0
    exact ⟨⟨_,rfl⟩,.inl hJ⟩
 .have hE:L2=N:=by omega
  subst hE
  clear hN
  gi_wp2
  gi_loopw [10] (fun i wr=>∃k:Nat,i=.int .i64 k/\k<=L2/\J k wr/\wr.cell? ⟨Bx,0,none⟩=some (.slice A L1 c)/\wr.cell? ⟨By,0,none⟩=some (.slice A' L2 c')/\Rw wr B A L1 vs/\Rw wr B A' L2 us)
   (fun i _=>L2-(intOf i).toNat)
  case atStart=>exact ⟨0,rfl,Nat.zero_le _,h0,hbx,hby,hx,hy⟩
  case round =>
   obtain ⟨k,rfl,hk,hJ,cx,cy,rx,ry⟩:=hrel
   clear hbx hby hx hy h0
   have klx:Bx<wr.heap.size:=World.block_lt_of_cell? wr _ cx
   have kly:By<wr.heap.size:=World.block_lt_of_cell? wr _ cy
   by_cases hlt:k<L2
   .have hlt':(k:Int)<(L2:Nat):=by omega
    have hdec:decide ((k:Int)<max (L1:Int) (L2:Int))=true:=decide_eq_true (by omega)
    have HX:=Hd (fun (V:World) (hV:Below wr.heap.size wr V)=>rowAt_v (C:=c) (k:=k) (rx.grow hV) QX.out HX63.out)
    have HY:=Hd (fun (V:World) (hV:Below wr.heap.size wr V)=>rowAt_v (C:=c') (k:=k) (ry.grow hV) QY.out HY63.out)
    have HJ:=Hd (fun (V:World) (hV:Below wr.heap.size wr V)=>HYY.out k V hlt (HST.out k _ _ hJ hV))
    have next:∀V W3,Below wr.heap.size wr V->J (k+1) W3->KeepAt (pairS Bx By B) V W3->(∃k':Nat,(Value.int .i64 ((k:Int)+1))=.int .i64 k'/\k'<=L2/\J k' W3/\W3.cell? ⟨Bx,0,none⟩=some (.slice A L1 c)/\W3.cell? ⟨By,0,none⟩=some (.slice A' L2 c')/\Rw W3 B A L1 vs/\Rw W3 B A' L2 us) :=
     fun V W3 hV hJ3 hk3=>⟨k+1,by simp,by omega,hJ3,(hk3 _ (.inl rfl)).trans ((hV.cell (p:=⟨Bx,0,none⟩) klx).trans cx),(hk3 _ (.inr (.inl rfl))).trans ((hV.cell (p:=⟨By,0,none⟩) kly).trans cy),(rx.grow hV).keepAt (fun p hp=>.inr (.inr hp)) hk3,(ry.grow hV).keepAt (fun p hp=>.inr (.inr hp)) hk3⟩
    have NEXT:=Hd next
    have HEND:=Hd hlt
    have CX:=Hd (fun (V:World) (hV:Below wr.heap.size wr V)=>(hV.cell (p:=⟨Bx,0,none⟩) klx).trans cx)
    have CY:=Hd (fun (V:World) (hV:Below wr.heap.size wr V)=>(hV.cell (p:=⟨By,0,none⟩) kly).trans cy)
    clear next rx ry cx cy hlt klx kly
    obtain ⟨X,hX⟩:∃X,rvA L1 vs k=X:=⟨_,rfl⟩
    obtain ⟨Y,hY⟩:∃Y,rvA L2 us k=Y:=⟨_,rfl⟩
    unfold rowE at HJ
    rw[hX]at HX HJ
    rw[hY]at HY HJ
    clear hX hY
    gi_wp2_with fail
    refine wpIn_region_any follows ?_
    refine wpAnyIn_take (i:=0) (v:=.func (.yield l) #[] #[]) rfl rfl (by kernel_rfl) (by kernel_rfl) (by kernel_rfl) (fun _ _ _ h=>h) ⟨Or.inl ⟨by rfl,fun w=>by go_simp⟩,fun _=>rfl⟩ ?_
    refine wpAnyIn_take (i:=2) (v:=.int .i64 (k:Int)) rfl rfl (by kernel_rfl) (by kernel_rfl) (by kernel_rfl) (fun _ _ _ h=>h) ⟨Or.inl ⟨by rfl,fun w=>by go_simp⟩,fun _=>rfl⟩ ?_
    refine wpAnyIn_take (i:=5) (v:=.int .i64 (k:Int)) rfl rfl (by kernel_rfl) (by kernel_rfl) (by kernel_rfl) (fun _ _ _ h=>h) ⟨Or.inl ⟨by rfl,fun w=>by go_simp⟩,fun _=>rfl⟩ ?_
    refine dagInE 6 #[true,false,true,false,false,true,false,false,false] ⟨#[.func (.yield l) #[] #[],.pointer (some ⟨Bx,0,none⟩),.pointer (some ⟨By,0,none⟩),undef,.int .i64 (k:Int),.slice A L1 c,.int .i64 (L1:Int),.slice A' L2 c',.int .i64 (L2:Int),.int .i64 (max (L1:Int) (L2:Int)),.int .i64 (k:Int),.bool true,.int .i64 (k:Int),.func (.yield l) #[] #[],u14,.int .i64 (k:Int),u16,u17,.int .i64 (k:Int),u19,u20,u21,u22],[]⟩ (by kernel_rfl) (by kernel_rfl) (by rfl) (fun G up dn=>?_)
    have S1346:∀V,Below wr.heap.size wr V->G 2 #[true,true,true,true,true,true,true,false,false] ⟨#[.func (.yield l) #[] #[],.pointer (some ⟨Bx,0,none⟩),.pointer (some ⟨By,0,none⟩),undef,.int .i64 (k:Int),.slice A L1 c,.int .i64 (L1:Int),.slice A' L2 c',.int .i64 (L2:Int),.int .i64 (max (L1:Int) (L2:Int)),.int .i64 (k:Int),.bool true,.int .i64 (k:Int),.func (.yield l) #[] #[],.slice A L1 c,.int .i64 (k:Int),X,.slice A' L2 c',.int .i64 (k:Int),Y,u20,u21,u22],[]⟩ V:=by
     intro V hV
     refine up ?_
     obtain ⟨fn,tmps,assign,body,hyy,hR⟩:=HJ.out V hV
     refine rdyI (i:=7) (by kernel_rfl) rfl (fun K hK=>?_)
     go_simp
     gi_wp2
     refine hR.mono ?_
     rintro e W3 (⟨rfl,hJ3,hk3⟩|⟨rfl,hJx3⟩)
     .refine hK _ _ ?_
      clear hK K
      refine rdyI (i:=8) (by kernel_rfl) rfl (fun K hK=>?_)
      go_simp
      refine hK _ _ ?_
      clear hK K
      refine wpAnyIn_done (by kernel_rfl) ?_ _
      gi_wp2
      go_roundw
      case rel=>exact NEXT.out V W3 hV hJ3 hk3
      case measure=>have:=HEND.out;simp[intOf];omega
     .refine hK _ _ ?_
      clear hK K
      refine rdyI (i:=8) (by kernel_rfl) rfl (fun K hK=>?_)
      go_simp
      refine hK _ _ ?_
      clear hK K
      refine wpAnyIn_done (by kernel_rfl) ?_ _
      gi_wp2
      refine bodyPost_ret (results_none rfl _ _ _) rfl ?_
      exact ⟨⟨_,rfl⟩,.inr ⟨k,HEND.out,hJx3⟩⟩
    have S134:∀V,Below wr.heap.size wr V->G 3 #[true,true,true,true,true,true,false,false,false] ⟨#[.func (.yield l) #[] #[],.pointer (some ⟨Bx,0,none⟩),.pointer (some ⟨By,0,none⟩),undef,.int .i64 (k:Int),.slice A L1 c,.int .i64 (L1:Int),.slice A' L2 c',.int .i64 (L2:Int),.int .i64 (max (L1:Int) (L2:Int)),.int .i64 (k:Int),.bool true,.int .i64 (k:Int),.func (.yield l) #[] #[],.slice A L1 c,.int .i64 (k:Int),X,.slice A' L2 c',.int .i64 (k:Int),u19,u20,u21,u22],[]⟩ V:=by
     intro V hV
     refine up ?_
     refine rdyI (i:=6) (by kernel_rfl) rfl (fun K hK=>?_)
     go_simp
     gi_wp2_with (refine ⟨trivial,?_⟩;gi_at_call 53;refine (callsIn_wide.2 (HY.out V hV)).mono ?_;rintro e w' ⟨rfl,bb⟩)
     exact dn (S1346 _ (Bxb hV bb))
    have S14:∀V,Below wr.heap.size wr V->G 4 #[true,true,true,false,true,true,false,false,false] ⟨#[.func (.yield l) #[] #[],.pointer (some ⟨Bx,0,none⟩),.pointer (some ⟨By,0,none⟩),undef,.int .i64 (k:Int),.slice A L1 c,.int .i64 (L1:Int),.slice A' L2 c',.int .i64 (L2:Int),.int .i64 (max (L1:Int) (L2:Int)),.int .i64 (k:Int),.bool true,.int .i64 (k:Int),.func (.yield l) #[] #[],.slice A L1 c,.int .i64 (k:Int),u16,.slice A' L2 c',.int .i64 (k:Int),u19,u20,u21,u22],[]⟩ V:=by
     intro V hV
     refine up ?_
     refine rdyI (i:=3) (by kernel_rfl) rfl (fun K hK=>?_)
     go_simp
     gi_wp2_with (refine ⟨trivial,?_⟩;gi_at_call 53;refine (callsIn_wide.2 (HX.out V hV)).mono ?_;rintro e w' ⟨rfl,bb⟩)
     exact dn (S134 _ (Bxb hV bb))
    have S13:∀V,Below wr.heap.size wr V->G 4 #[true,true,true,true,false,true,false,false,false] ⟨#[.func (.yield l) #[] #[],.pointer (some ⟨Bx,0,none⟩),.pointer (some ⟨By,0,none⟩),undef,.int .i64 (k:Int),.slice A L1 c,.int .i64 (L1:Int),.slice A' L2 c',.int .i64 (L2:Int),.int .i64 (max (L1:Int) (L2:Int)),.int .i64 (k:Int),.bool true,.int .i64 (k:Int),.func (.yield l) #[] #[],.slice A L1 c,.int .i64 (k:Int),X,u17,.int .i64 (k:Int),u19,u20,u21,u22],[]⟩ V:=by
     intro V hV
     refine up ?_
     refine rdyI (i:=4) (by kernel_rfl) rfl (fun K hK=>?_)
     have cc:=CY.out V hV
     go_simp
     refine hK _ _ ?_
     exact dn (S134 V hV)
    have S1:∀V,Below wr.heap.size wr V->G 5 #[true,true,true,false,false,true,false,false,false] ⟨#[.func (.yield l) #[] #[],.pointer (some ⟨Bx,0,none⟩),.pointer (some ⟨By,0,none⟩),undef,.int .i64 (k:Int),.slice A L1 c,.int .i64 (L1:Int),.slice A' L2 c',.int .i64 (L2:Int),.int .i64 (max (L1:Int) (L2:Int)),.int .i64 (k:Int),.bool true,.int .i64 (k:Int),.func (.yield l) #[] #[],.slice A L1 c,.int .i64 (k:Int),u16,u17,.int .i64 (k:Int),u19,u20,u21,u22],[]⟩ V:=by
     intro V hV
     refine up ?_
     refine wpAnyIn_ready (rs:=[3,4]) (by kernel_rfl) (by simp) (AllReadyIn.cons rfl (fun K hK=>?_) (AllReadyIn.cons rfl (fun K hK=>?_) AllReadyIn.nil))
     .go_simp
      gi_wp2_with (refine ⟨trivial,?_⟩;gi_at_call 53;refine (callsIn_wide.2 (HX.out V hV)).mono ?_;rintro e w' ⟨rfl,bb⟩)
      exact dn (S13 _ (Bxb hV bb))
     .have cc:=CY.out V hV
      go_simp
      refine hK _ _ ?_
      exact dn (S14 V hV)
    have S4:∀V,Below wr.heap.size wr V->G 5 #[true,false,true,false,true,true,false,false,false] ⟨#[.func (.yield l) #[] #[],.pointer (some ⟨Bx,0,none⟩),.pointer (some ⟨By,0,none⟩),undef,.int .i64 (k:Int),.slice A L1 c,.int .i64 (L1:Int),.slice A' L2 c',.int .i64 (L2:Int),.int .i64 (max (L1:Int) (L2:Int)),.int .i64 (k:Int),.bool true,.int .i64 (k:Int),.func (.yield l) #[] #[],u14,.int .i64 (k:Int),u16,.slice A' L2 c',.int .i64 (k:Int),u19,u20,u21,u22],[]⟩ V:=by
     intro V hV
     refine up ?_
     refine rdyI (i:=1) (by kernel_rfl) rfl (fun K hK=>?_)
     have cc:=CX.out V hV
     go_simp
     refine hK _ _ ?_
     exact dn (S14 V hV)
    have S:∀V,Below wr.heap.size wr V->G 6 #[true,false,true,false,false,true,false,false,false] ⟨#[.func (.yield l) #[] #[],.pointer (some ⟨Bx,0,none⟩),.pointer (some ⟨By,0,none⟩),undef,.int .i64 (k:Int),.slice A L1 c,.int .i64 (L1:Int),.slice A' L2 c',.int .i64 (L2:Int),.int .i64 (max (L1:Int) (L2:Int)),.int .i64 (k:Int),.bool true,.int .i64 (k:Int),.func (.yield l) #[] #[],u14,.int .i64 (k:Int),u16,u17,.int .i64 (k:Int),u19,u20,u21,u22],[]⟩ V:=by
     intro V hV
     refine up ?_
     refine wpAnyIn_ready (rs:=[1,4]) (by kernel_rfl) (by simp) (AllReadyIn.cons rfl (fun K hK=>?_) (AllReadyIn.cons rfl (fun K hK=>?_) AllReadyIn.nil))
     .have cc:=CX.out V hV
      go_simp
      refine hK _ _ ?_
      exact dn (S1 V hV)
     .have cc:=CY.out V hV
      go_simp
      refine hK _ _ ?_
      exact dn (S4 V hV)
    exact S _ (Below.refl _ _).drew
   .have hE:L2=k:=by omega
    subst hE
    gi_wp2
    go_end0
    exact ⟨⟨_,rfl⟩,.inl hJ⟩
end Go.Proofs.YtglhdielkkhefaaGreat
