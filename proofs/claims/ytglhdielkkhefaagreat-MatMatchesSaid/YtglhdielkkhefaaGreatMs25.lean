/- Parts: 1. -/
import Derived.Test.YtglhdielkkhefaaGreatMs20
import Derived.Test.YtglhdielkkhefaaGreatMs24
set_option linter.unusedVariables false
set_option linter.unusedSimpArgs false
set_option maxRecDepth 100000
set_option maxHeartbeats 40000000

namespace Go.Proofs.YtglhdielkkhefaaGreat
open Go.RowKit Go.Shelf
theorem rowAt_l {w:World}{P:Option Addr}{N C m i:Nat}{rs:Nat->List Rat}(hM:Mi w P N C rs m) :
  Calls Tryz.prog 53 #[.slice P N C,.int .i64 (i:Int)] w fun e w'=>∃A c es,e=.returned (.slice A (rowL rs N i).length c)/\Vi w' A c es (rowL rs N i) m/\Below w.heap.size w w':=by
 obtain ⟨vs,h1,h2,h3⟩:=mi_vals hM
 refine (rowAt_v h1 h2 hM.n63).mono ?_
 rintro e w' ⟨rfl,hb⟩
 obtain ⟨A,c,es,e,hv⟩:=h3 i
 exact ⟨A,c,es,by rw[e],hv.to hb,hb⟩
theorem resize1_m {w:World}{g1 g2 i:Nat}{P:Option Addr}{N C m L:Nat}{rs:Nat->List Rat}(h1:w.cell? ⟨g1,0,none⟩=some (.slice P N C))(h2:w.cell? ⟨g2,0,none⟩=some (.int .i64 (L:Int)))(hM:Mi w P N C rs m)(hm:m<=10000)(hr:∀i,i<N->(rs i).length<=4398046511104)(hL:L<=1024) :
  Calls Tryz.prog 61 #[.int .i64 (i:Int),.pointer (some ⟨g1,0,none⟩),.pointer (some ⟨g2,0,none⟩)] w (VR w (fitQ (rowL rs N i) (L:Int))):=by
 have l1:=World.block_lt_of_cell? w _ h1
 have l2:=World.block_lt_of_cell? w _ h2
 have hrl:=rowL_le hr i
 obtain ⟨r,hr0⟩:∃r,rowL rs N i=r:=⟨_,rfl⟩
 have F1:Hid (∀V,Below w.heap.size w V->V.cell? ⟨g1,0,none⟩=some (.slice P N C)):=fun V hV=>(hV.cell (p:=⟨g1,_,none⟩) l1).trans h1
 have F2:Hid (∀V,Below w.heap.size w V->V.cell? ⟨g2,0,none⟩=some (.int .i64 (L:Int))):=fun V hV=>(hV.cell (p:=⟨g2,_,none⟩) l2).trans h2
 have HA:=Hd (fun (V:World) (hV:Below w.heap.size w V)=>rowAt_l (i:=i) (hM.to hV))
 rw[hr0]at HA hrl ⊢
 have HR:=Hd (fun (V:World) (A:Option Addr) (c:Nat) (es:List E4) (hv:Vi V A c es r m)=>vresize_v (n:=(L:Int)) hv hm hrl (by omega))
 clear h1 h2 hM hm hr hL l1 l2 hrl hr0
 go_enter Tryz.func61,Tryz.ntmps61
 go_wp2_with fail
 refine wp_region_plan (S:=fun w'=>Below w.heap.size w w') [(0,true),(1,true),(3,true),(2,false),(4,false),(5,true)] (by kernel_rfl) (by kernel_rfl) (Below.refl w.heap.size w).drew ?_
 have hb:=(Below.refl w.heap.size w).drew
 refine plan_take (v:=?_) rfl (by rfl) ?_ ?_;rotate_left;(focus (intro w' hS;have k1:=F1.out w' hS;go_simp;try with_reducible rfl));simp only[Act.put,List.setIfInBounds_toArray,List.set_cons_zero,List.set_cons_succ]
 refine plan_take (v:=?_) rfl (by rfl) ?_ ?_;rotate_left;(focus (intro w' _;go_simp;try with_reducible rfl));simp only[Act.put,List.setIfInBounds_toArray,List.set_cons_zero,List.set_cons_succ]
 refine plan_take (v:=?_) rfl (by rfl) ?_ ?_;rotate_left;(focus (intro w' hS;have k1:=F2.out w' hS;go_simp;try with_reducible rfl));simp only[Act.put,List.setIfInBounds_toArray,List.set_cons_zero,List.set_cons_succ]
 refine plan_call rfl (by rfl) (fun K hK=>?_)
 go_simp
 refine (HA.out _ hb).mono ?_
 rintro e V ⟨A2,c2,es2,rfl,hv,bb⟩
 replace hb:=Bxb hb bb
 refine hK.out _ _ hb ?_
 clear hK K bb
 refine plan_call rfl (by rfl) (fun K hK=>?_)
 go_simp
 refine (HR.out _ _ _ _ hv).mono ?_
 rintro e V ⟨A3,c3,es3,rfl,hv2,bb⟩
 replace hb:=Bxb hb bb
 refine hK.out _ _ hb ?_
 clear hK K bb
 refine plan_take (v:=?_) rfl (by rfl) ?_ ?_;rotate_left;(focus (intro w' _;go_simp;try with_reducible rfl));simp only[Act.put,List.setIfInBounds_toArray,List.set_cons_zero,List.set_cons_succ]
 refine plan_done ?_
 have HE:=Hd hb
 have HV:=Hd hv2
 clear hb hv2 F1 F2 HA HR
 go_wp2
 go_ret
 exact ⟨A3,c3,es3,rfl,HV.out,HE.out⟩
theorem resize_m {w:World}{P:Option Addr}{N C m R L:Nat}{rs:Nat->List Rat}{n1 n2:Int}(hM:Mi w P N C rs m)(hm:m<=10000)(hr:∀i,i<N->(rs i).length<=4398046511104)(h1:min (max n1 0) 1024=(R:Int))(h2:min (max n2 0) 1024=(L:Int)) :
  Calls Tryz.prog 21 #[.slice P N C,.int .i64 n1,.int .i64 n2] w (MR w R (fun i=>fitQ (rowL rs N i) (L:Int))):=by
 have hR:R<=1024:=by omega
 have hL:L<=1024:=by omega
 obtain ⟨W0,hW0⟩:∃W0,W0=w.alloc (.cells #[.slice P N C] 22):=⟨_,rfl⟩
 have hbw:Below w.heap.size w W0:=by rw[hW0];exact (Below.refl _ _).alloc (Nat.le_refl _) _
 have hp:Hp W0 w.heap.size (.cells #[.slice P N C] 22 (0,0)):=by rw[hW0];exact Hp.new _ _ _
 have HC:=Hd (allowed_z (w:=W0) h2)
 have HD:=Hd (fun (V:World)=>allowed_z (w:=V) h1)
 have HF:=Hd (fun (V:World) (g:Nat) (hV:Below W0.heap.size W0 V) (hg:Hp V g (.cells #[.int .i64 (L:Int)] 3 (0,0)))=>fill_m (w:=V) (N:=R) (F:=61) (caps:=#[.pointer (some ⟨w.heap.size,0,none⟩),.pointer (some ⟨g,0,none⟩)]) (rs:=fun i=>fitQ (rowL rs N i) (L:Int)) (by omega) (callf_enter Tryz.func61 (by kernel_rfl) (by kernel_rfl)) (fun U hU i hi=>resize1_m ((hp.to hV).to hU).one (hg.to hU).one (((hM.to hbw).to hV).to hU) hm hr hL))
 have HW0:=Hd hW0
 have HB:=Hd hbw
 clear h1 h2 hR hL hM hm hr hp hW0 hbw
 go_enter Tryz.func21,Tryz.ntmps21
 go_wp2_with fail
 rw[<-HW0.out]
 clear HW0
 refine HC.out.mono ?_
 rintro e V ⟨rfl,bb⟩
 have h3:=Hp.new V #[.int .i64 (L:Int)] 3
 have bb1:Below V.heap.size V (V.alloc (.cells #[.int .i64 (L:Int)] 3)):=(Below.refl _ _).alloc (Nat.le_refl _) _
 have HX:=Hd (Bxb bb bb1)
 have H3:=Hd h3
 clear bb bb1 h3 HC
 go_wp2_with fail
 refine (HD.out _).mono ?_
 rintro e X ⟨rfl,b2⟩
 have hX2:=HX.out.trans (b2.mono HX.out.size)
 have HFV:=Hd (HF.out X V.heap.size hX2 (H3.out.to b2))
 have HB2:=Hxb HB hX2
 clear HF HD H3 HX b2 hX2
 go_wp2_with fail
 refine HFV.out.mono ?_
 rintro e Y ⟨P2,C2,rfl,hm2,b3⟩
 have HE:=Hxb HB2 b3
 clear b3
 go_wp2
 go_ret
 exact ⟨P2,C2,rfl,hm2,HE.out⟩
end Go.Proofs.YtglhdielkkhefaaGreat
