/- Parts: 6. -/
import Derived.Test.YtglhdielkkhefaaGreatMr13
import Derived.Test.YtglhdielkkhefaaGreatMr14
import Derived.Test.YtglhdielkkhefaaGreatMr17
set_option linter.unusedVariables false
set_option linter.unusedSimpArgs false
set_option maxRecDepth 100000
set_option maxHeartbeats 40000000

namespace Go.Proofs.YtglhdielkkhefaaGreat
open Go.RowKit Go.Shelf
theorem is3_len {w:World}{A A':Option Addr}{l l' c c':Nat}(hl:l≠l') :
  Calls Tryz.prog 37 #[.slice A l c,.slice A' l' c'] w fun e w'=>e=.returned (.bool false)/\Below w.heap.size w w':=by
 have h1:((l:Int) != (l':Int))=true:=by rw[bne_iff_ne];omega
 clear hl
 go_enter Tryz.func37,Tryz.ntmps37
 go_wp2
 go_ret
 exact ⟨rfl,Below.refl _ _⟩
theorem is3_f {b:Nat->Bool}{w:World}{A A':Option Addr}{c c' L:Nat}{es fs:List E4}(hx:Rq w w.heap.size A es)(hy:Rq w w.heap.size A' fs)(h1:es.length=L)(h2:fs.length=L)(hL:L<=4398046511104)
  (hF:∀(V:World),Below w.heap.size w V->∀i,i<L->Calls Tryz.prog 15 #[(es.getD i E4.z).v,(fs.getD i E4.z).v] V fun e w'=>e=.returned (.bool (b i))/\Below V.heap.size V w') {r:Bool} (hr:(List.range L).all b=r) :
  Calls Tryz.prog 37 #[.slice A L c,.slice A' L c'] w fun e w'=>e=.returned (.bool r)/\Below w.heap.size w w':=by
 have RX:=Hd hx
 have RY:=Hd hy
 have H1:=Hd h1
 have H2:=Hd h2
 have HF:=Hd hF
 have HR:=Hd hr
 have hne:((L:Int) != (L:Int))=false:=by simp
 clear hx hy h1 h2 hF hr
 go_enter Tryz.func37,Tryz.ntmps37
 go_wp2
 go_loopw [5] (fun i wr=>∃k:Nat,i=.int .i64 k/\k<=L/\(∀j,j<k->b j=true)/\Below w.heap.size w wr) (fun i _=>L-(intOf i).toNat)
 case atStart=>exact ⟨0,rfl,Nat.zero_le _,(fun j hj=>by omega),Below.refl _ _⟩
 case round =>
  obtain ⟨k,rfl,hk,ht,hb⟩:=hrel
  have HT:=Hd ht
  have HB:=Hd hb
  clear ht hb
  by_cases hlt:k<L
  .have hki:(0:Int)<=(k:Int):=by omega
   have hki':(k:Int)<(L:Int):=by omega
   have hkx:k<es.length:=by have:=H1.out;omega
   have hky:k<fs.length:=by have:=H2.out;omega
   have HC:=Hd (fun (V:World) (hV:Below w.heap.size w V)=>HF.out V hV k hlt)
   obtain ⟨b1,o1,rfl,hb1,f0,f1,f2,f3⟩:=RX.out k hkx
   obtain ⟨b2,o2,rfl,hb2,g0,g1,g2,g3⟩:=RY.out k hky
   rw[getD_at' hkx,getD_at' hky]at HC
   have FX:Hid (∀w',Below w.heap.size w w'->w'.cell? ⟨b1,o1+k*4,none⟩=some es[k].a/\w'.cell? ⟨b1,o1+k*4+1,none⟩=some es[k].b/\w'.cell? ⟨b1,o1+k*4+2,none⟩=some es[k].c/\w'.cell? ⟨b1,o1+k*4+3,none⟩=some es[k].d):=fun w' hS =>
    ⟨(hS.cell (p:=⟨b1,_,none⟩) hb1).trans f0,(hS.cell (p:=⟨b1,_,none⟩) hb1).trans f1,(hS.cell (p:=⟨b1,_,none⟩) hb1).trans f2,(hS.cell (p:=⟨b1,_,none⟩) hb1).trans f3⟩
   have FY:Hid (∀w',Below w.heap.size w w'->w'.cell? ⟨b2,o2+k*4,none⟩=some fs[k].a/\w'.cell? ⟨b2,o2+k*4+1,none⟩=some fs[k].b/\w'.cell? ⟨b2,o2+k*4+2,none⟩=some fs[k].c/\w'.cell? ⟨b2,o2+k*4+3,none⟩=some fs[k].d):=fun w' hS =>
    ⟨(hS.cell (p:=⟨b2,_,none⟩) hb2).trans g0,(hS.cell (p:=⟨b2,_,none⟩) hb2).trans g1,(hS.cell (p:=⟨b2,_,none⟩) hb2).trans g2,(hS.cell (p:=⟨b2,_,none⟩) hb2).trans g3⟩
   generalize es[k]=X at FX HC
   generalize fs[k]=Y at FY HC
   obtain ⟨x1,x2,x3,x4⟩:=X
   obtain ⟨y1,y2,y3,y4⟩:=Y
   simp only[E4.v]at HC
   dsimp only at FX FY
   have HLT:=Hd hlt
   clear f0 f1 f2 f3 g0 g1 g2 g3 hb1 hb2 hkx hky HF RX RY hlt
   obtain ⟨v,hv⟩:∃v,b k=v:=⟨_,rfl⟩
   rw[hv]at HC
   have HV:=Hd hv
   clear hv
   cases v with
   | true =>
    go_wp2_with fail
    refine wp_region_plan (S:=fun w'=>Below w.heap.size w w') [(0,true),(1,true),(2,true),(3,true),(4,true),(5,true),(6,true),(7,true),(8,false),(9,true)] (by kernel_rfl) (by kernel_rfl) HB.out.drew ?_
    have hb:=HB.out.drew
    iterate 8 (refine plan_take (v:=?_) rfl (by rfl) ?_ ?_;rotate_left;(focus (intro w' hS;obtain ⟨f0,f1,f2,f3⟩:=FX.out w' hS;obtain ⟨g0,g1,g2,g3⟩:=FY.out w' hS;go_simp;try with_reducible rfl)))
    refine plan_call rfl (by rfl) (fun K hK=>?_)
    go_simp
    refine (HC.out _ hb).mono ?_
    rintro e V ⟨rfl,bb⟩
    replace hb:=Bxb hb bb
    refine hK.out _ _ hb ?_
    clear hK K bb
    refine plan_take (v:=?_) rfl (by rfl) ?_ ?_;rotate_left;(focus (intro w' hS;obtain ⟨f0,f1,f2,f3⟩:=FX.out w' hS;obtain ⟨g0,g1,g2,g3⟩:=FY.out w' hS;go_simp;try with_reducible rfl))
    refine plan_done ?_
    have HE:=Hd hb
    clear hb HB
    go_wp2
    go_roundw
    case rel =>
     refine ⟨k+1,by simp,HLT.out,fun j hj=>?_,HE.out⟩
     by_cases hjk:j=k
     .subst hjk;exact HV.out
     .exact HT.out j (by omega)
    case measure=>have:=HLT.out;simp[intOf];omega
   | false =>
    go_wp2_with fail
    refine wp_region_plan (S:=fun w'=>Below w.heap.size w w') [(0,true),(1,true),(2,true),(3,true),(4,true),(5,true),(6,true),(7,true),(8,false),(9,true)] (by kernel_rfl) (by kernel_rfl) HB.out.drew ?_
    have hb:=HB.out.drew
    iterate 8 (refine plan_take (v:=?_) rfl (by rfl) ?_ ?_;rotate_left;(focus (intro w' hS;obtain ⟨f0,f1,f2,f3⟩:=FX.out w' hS;obtain ⟨g0,g1,g2,g3⟩:=FY.out w' hS;go_simp;try with_reducible rfl)))
    refine plan_call rfl (by rfl) (fun K hK=>?_)
    go_simp
    refine (HC.out _ hb).mono ?_
    rintro e V ⟨rfl,bb⟩
    replace hb:=Bxb hb bb
    refine hK.out _ _ hb ?_
    clear hK K bb
    refine plan_take (v:=?_) rfl (by rfl) ?_ ?_;rotate_left;(focus (intro w' hS;obtain ⟨f0,f1,f2,f3⟩:=FX.out w' hS;obtain ⟨g0,g1,g2,g3⟩:=FY.out w' hS;go_simp;try with_reducible rfl))
    refine plan_done ?_
    have HE:=Hd hb
    clear hb HB
    go_wp2
    go_ret
    refine ⟨?_,HE.out⟩
    rw[<-HR.out,show (List.range L).all b=false from by
     rw[List.all_eq_false]
     exact ⟨k,by simpa using HLT.out,by rw[HV.out];decide⟩]
    rfl
  .obtain rfl:k=L:=by omega
   go_wp2
   go_ret
   refine ⟨?_,HB.out⟩
   rw[<-HR.out,show (List.range k).all b=true from by
    rw[List.all_eq_true]
    intro x hx
    exact HT.out x (by simpa using hx)]
   rfl
theorem all_same {rs ss:List Rat}{L:Nat}(h1:rs.length=L)(h2:ss.length=L):(List.range L).all (fun i=>decide (rs.getD i 0=ss.getD i 0))=decide (rs=ss):=by
 rw[Bool.eq_iff_iff,List.all_eq_true,decide_eq_true_eq]
 constructor
 .intro h
  refine List.ext_getElem (by omega) fun i hi hj=>?_
  have:=h i (by simp;omega)
  rw[decide_eq_true_eq,getD_lt hi,getD_lt hj]at this
  exact this
 .rintro rfl x _
  simp
theorem vis_v {w:World}{A A':Option Addr}{c c':Nat}{es fs:List E4}{rs ss:List Rat}(hA:Vc w A c es rs)(hB:Vc w A' c' fs ss)(hL:rs.length<=4398046511104){v:Bool}(hv:decide (rs=ss)=v) :
  Calls Tryz.prog 37 #[.slice A rs.length c,.slice A' ss.length c'] w fun e w'=>e=.returned (.bool v)/\Below w.heap.size w w':=by
 by_cases h:rs.length=ss.length
 .rw[<-h]
  exact is3_f (b:=fun i=>decide (rs.getD i 0=ss.getD i 0)) hA.row hB.row hA.len (by rw[hB.len,h]) hL (fun V hV i _=>is_q ((hA.el i).to hV) ((hB.el i).to hV) rfl) (by rw[all_same rfl h.symm];exact hv)
 .rw[<-hv,decide_eq_false (fun e=>h (by rw[e]))]
  exact is3_len h
structure Im (W:World)(P:Option Addr)(N:Nat)(ns:Nat->List Int):Prop where
 row:∀k,k<N->∃b o A c,P=some ⟨b,o,none⟩/\b<W.heap.size/\W.cell? ⟨b,o+k,none⟩=some (.slice A (ns k).length c)/\Rn W A (ns k)
 bd:∀k,k<N->∀n∈ns k,-9223372036854775808<=n/\n<=9223372036854775807
 le:∀k,k<N->(ns k).length+1<=1000000
def Rs (W:World)(P:Option Addr)(N:Nat)(rs:Nat->List Rat):Prop:=∀k,k<N->∃b o A c,P=some ⟨b,o,none⟩/\b<W.heap.size/\W.cell? ⟨b,o+k,none⟩=some (.slice A (rs k).length c)
theorem Mc.rs {W:World}{P:Option Addr}{N C:Nat}{rs:Nat->List Rat}(h:Mc W P N C rs):Rs W P N rs:=fun k hk=>by
 obtain ⟨b,o,A,c,es,e,h1,h2,h3⟩:=h.row k hk
 exact ⟨b,o,A,c,e,h1,h2⟩
theorem Mi.rs {W:World}{P:Option Addr}{N C m:Nat}{rs:Nat->List Rat}(h:Mi W P N C rs m):Rs W P N rs:=fun k hk=>by
 obtain ⟨b,o,A,c,es,e,h1,h2,h3⟩:=h.row k hk
 exact ⟨b,o,A,c,e,h1,h2⟩
theorem Rn.go {W V:World}{A:Option Addr}{ns:List Int}(h:Rn W A ns)(hb:Below W.heap.size W V):Rn V A ns:=fun k hk=>by
 obtain ⟨b,o,e,hc⟩:=h k hk
 exact ⟨b,o,e,(hb.cell (p:=⟨b,o+k,none⟩) (World.block_lt_of_cell? W _ hc)).trans hc⟩
theorem Im.to {W V:World}{P:Option Addr}{N:Nat}{ns:Nat->List Int}(h:Im W P N ns)(hb:Below W.heap.size W V):Im V P N ns :=
 ⟨fun k hk=>by
  obtain ⟨b,o,A,c,e,h1,h2,h3⟩:=h.row k hk
  exact ⟨b,o,A,c,e,Nat.lt_of_lt_of_le h1 hb.size,(hb.cell (p:=⟨b,_,none⟩) h1).trans h2,h3.go hb⟩,h.bd,h.le⟩
theorem rints4_m {w:World}{P:Option Addr}{N C:Nat}{ns:Nat->List Int}(h:Im w P N ns)(hl:N+1<=1000000) :
  Calls Tryz.prog 42 #[.slice P N C] w (MR w N (fun k=>ratsOf (ns k))):=by
 have HL:=Hd hl
 have HI:=Hd (fun (V:World) (hV:Below w.heap.size w V) k (hk:k<N) {A:Option Addr} {c:Nat} (hA:Rn V A (ns k))=>rints_v (c:=c) hA (h.bd k hk) (h.le k hk))
 have HR:=Hd (fun (V:World) (hV:Below w.heap.size w V)=>(h.to hV).row)
 obtain ⟨rs,hrs⟩:∃rs:Nat->List Rat,rs=fun k=>ratsOf (ns k):=⟨_,rfl⟩
 have hrk:∀k,ratsOf (ns k)=rs k:=fun k=>by rw[hrs]
 simp only[hrk]at HI
 rw[<-hrs]
 have HRL:Hid (∀k,(rs k).length=(ns k).length):=fun k=>by rw[<-hrk,ratsOf_length]
 clear h hrs hrk
 go_enter Tryz.func42,Tryz.ntmps42
 go_wp2
 go_loopw [3,4] (fun v i wr=>∃(k:Nat) (A1:Option Addr) (c1:Nat),v=.slice A1 k c1/\i=.int .i64 k/\k<=N/\Hid (TotS (Vs rs) wr (.slice A1 k c1) k w.heap.size)/\Below w.heap.size w wr) (fun _ i _=>N-(intOf i).toNat)
 case atStart=>exact ⟨0,none,0,rfl,rfl,Nat.zero_le _,.inl ⟨rfl,rfl⟩,Below.refl _ _⟩
 case round =>
  obtain ⟨k,A1,c1,rfl,rfl,hk,hT,hb⟩:=hrel
  by_cases hlt:k<N
  .have hk1:(0:Int)<=(k:Int):=by omega
   have hk2:(k:Int)<(N:Int):=by omega
   have hk3:(k:Int)+1<=9223372036854775807:=by have:=HL.out;omega
   obtain ⟨b,o,A,c,rfl,hb1,cc,hA⟩:=HR.out wr hb k hlt
   have HC:=Hd (HI.out wr hb k hlt (c:=c) hA)
   clear hA hb1
   have HB:=Hd hb
   have HLT:=Hd hlt
   clear hb hlt hk
   go_wp2_with fail
   refine (HC.out).mono ?_
   rintro e V ⟨A2,c2,fl2,rfl,hv,bb⟩
   have bb2:Below V.heap.size V (V.alloc (.cells #[.slice A2 (rs k).length c2] 38)):=(Below.refl _ _).alloc (Nat.le_refl _) _
   have c5:=(Hp.new V #[.slice A2 (rs k).length c2] 38).one
   have hB1:=HB.out.trans (bb.mono HB.out.size)
   have hB2:=Bxb hB1 bb2
   obtain ⟨v',X,hrun,hT2,hbel⟩:=sapp (Vs.kept rs) ((hT.out.mv (Vs.kept rs) bb).mv (Vs.kept rs) bb2) hB2.size (by have:=HL.out;have:=HLT.out;omega) ⟨_,_,_,rfl⟩ ⟨A2,c2,fl2,rfl,hv.to bb2⟩ (a:=⟨V.heap.size,0,none⟩) (c:=1) c5 22
   obtain ⟨A3,c3,rfl⟩:=hT2.sl
   have HRUN:=Hd hrun
   have HE:Hid (TotS (Vs rs) X (.slice A3 (k+1) c3) (k+1) w.heap.size/\Below w.heap.size w X):=⟨hT2,hB2.trans hbel⟩
   clear bb2 c5 hbel hrun bb hv hT2 hB1 hB2
   go_wp2_with (at_builtin;refine wpList_append_run rfl (.tmp 11) (.tmp 17) 22 rfl (by rfl) (by rfl) HRUN.out ?_;clear HRUN)
   go_roundw
   case rel=>exact ⟨k+1,A3,c3,rfl,by simp,HLT.out,HE.out.1,HE.out.2⟩
   case measure=>have:=HLT.out;simp[intOf];omega
  .obtain rfl:k=N:=by omega
   have HT:=hT
   have HB:=Hd hb
   clear hT hb hlt hk
   go_wp2
   go_ret
   exact ⟨A1,c1,rfl,HT.out.mc,HB.out⟩
theorem is4_t {w:World}{P Q:Option Addr}{N C D:Nat}{rs ss:Nat->List Rat}(hx:Mc w P N C rs)(hy:Mc w Q N D ss)(he:∀k,k<N->rs k=ss k)(hl:∀k,k<N->(rs k).length<=4398046511104) :
  Calls Tryz.prog 20 #[.slice P N C,.slice Q N D] w fun e w'=>e=.returned (.bool true)/\Below w.heap.size w w':=by
 have RX:=Hd hx.row
 have RY:=Hd hy.row
 have HN:=Hd (hx.n63)
 have HE:=Hd he
 have HL:=Hd hl
 have hne:((N:Int) != (N:Int))=false:=by simp
 clear hx hy he hl
 go_enter Tryz.func20,Tryz.ntmps20
 go_wp2
 go_loopw [5] (fun i wr=>∃k:Nat,i=.int .i64 k/\k<=N/\Below w.heap.size w wr) (fun i _=>N-(intOf i).toNat)
 case atStart=>exact ⟨0,rfl,Nat.zero_le _,Below.refl _ _⟩
 case round =>
  obtain ⟨k,rfl,hk,hb⟩:=hrel
  by_cases hlt:k<N
  .have hk1:(0:Int)<=(k:Int):=by omega
   have hk2:(k:Int)<(N:Int):=by omega
   have hk3:(k:Int)+1<=9223372036854775807:=by have:=HN.out;omega
   obtain ⟨b1,o1,A1,c1,es1,rfl,hb1,f1,v1⟩:=RX.out k hlt
   obtain ⟨b2,o2,A2,c2,es2,rfl,hb2,f2,v2⟩:=RY.out k hlt
   have HC:=Hd (fun (V:World) (hV:Below w.heap.size w V)=>vis_v (v1.to hV) (v2.to hV) (HL.out k hlt) (decide_eq_true (HE.out k hlt)))
   have F1:Hid (∀V,Below w.heap.size w V->V.cell? ⟨b1,o1+k,none⟩=some (.slice A1 (rs k).length c1)):=fun V hV=>(hV.cell (p:=⟨b1,_,none⟩) hb1).trans f1
   have F2:Hid (∀V,Below w.heap.size w V->V.cell? ⟨b2,o2+k,none⟩=some (.slice A2 (ss k).length c2)):=fun V hV=>(hV.cell (p:=⟨b2,_,none⟩) hb2).trans f2
   have HB:=Hd hb
   have HLT:=Hd hlt
   clear v1 v2 hb1 hb2 hb hlt hk RX RY HE HL f1 f2
   go_wp2_with fail
   refine wp_region_plan (S:=fun w'=>Below w.heap.size w w') [(0,true),(1,true),(2,true),(3,true),(4,true),(5,true),(6,true),(7,true),(8,false),(9,true)] (by kernel_rfl) (by kernel_rfl) HB.out.drew ?_
   have hb:=HB.out.drew
   iterate 3 (refine plan_take (v:=?_) rfl (by rfl) ?_ ?_;rotate_left;(focus (intro w' _;go_simp;try with_reducible rfl));simp only[Act.put,List.setIfInBounds_toArray,List.set_cons_zero,List.set_cons_succ])
   refine plan_take (v:=?_) rfl (by rfl) ?_ ?_;rotate_left;(focus (intro w' hS;have f1:=F1.out w' hS;go_simp;try with_reducible rfl));simp only[Act.put,List.setIfInBounds_toArray,List.set_cons_zero,List.set_cons_succ]
   iterate 3 (refine plan_take (v:=?_) rfl (by rfl) ?_ ?_;rotate_left;(focus (intro w' _;go_simp;try with_reducible rfl));simp only[Act.put,List.setIfInBounds_toArray,List.set_cons_zero,List.set_cons_succ])
   refine plan_take (v:=?_) rfl (by rfl) ?_ ?_;rotate_left;(focus (intro w' hS;have f2:=F2.out w' hS;go_simp;try with_reducible rfl));simp only[Act.put,List.setIfInBounds_toArray,List.set_cons_zero,List.set_cons_succ]
   refine plan_call rfl (by rfl) (fun K hK=>?_)
   go_simp
   refine (HC.out _ hb).mono ?_
   rintro e V ⟨rfl,bb⟩
   replace hb:=Bxb hb bb
   refine hK.out _ _ hb ?_
   clear hK K bb
   refine plan_take (v:=?_) rfl (by rfl) ?_ ?_;rotate_left;(focus (intro w' _;go_simp;try with_reducible rfl));simp only[Act.put,List.setIfInBounds_toArray,List.set_cons_zero,List.set_cons_succ]
   refine plan_done ?_
   have HB2:=Hd hb
   clear hb HC F1 F2 HB
   go_wp2
   go_roundw
   case rel=>exact ⟨k+1,by simp,HLT.out,HB2.out⟩
   case measure=>have:=HLT.out;simp[intOf];omega
  .obtain rfl:k=N:=by omega
   have HB:=Hd hb
   clear hb hlt hk RX RY HE HL
   go_wp2
   go_ret
   exact ⟨rfl,HB.out⟩
theorem rcols_m {w:World}{P:Option Addr}{N C:Nat}{rs:Nat->List Rat}(hx:Rs w P N rs)(hN:N<=9223372036854775806)(hl:∀k,k<N->(rs k).length<=9223372036854775807) :
  Calls Tryz.prog 14 #[.slice P N C] w fun e w'=>e=.returned (.int .i64 (colsN rs N))/\Below w.heap.size w w':=by
 have RX:=Hd hx
 have HN:=Hd hN
 have HL:=Hd hl
 have HM:=Hd (fun k (hk:k<=N)=>colsN_le (rs:=rs) (M:=9223372036854775807) (N:=k) (fun j hj=>hl j (by omega)))
 clear hx hl hN
 go_enter Tryz.func14,Tryz.ntmps14
 go_wp2
 go_loopw [3,4] (fun v i wr=>∃k:Nat,v=.int .i64 (colsN rs k:Nat)/\i=.int .i64 k/\k<=N/\Below w.heap.size w wr) (fun _ i _=>N-(intOf i).toNat)
 case atStart=>exact ⟨0,rfl,rfl,Nat.zero_le _,Below.refl _ _⟩
 case round =>
  obtain ⟨k,rfl,rfl,hk,hb⟩:=hrel
  by_cases hlt:k<N
  .have hk1:(0:Int)<=(k:Int):=by omega
   have hk2:(k:Int)<(N:Int):=by omega
   have hk3:(k:Int)+1<=9223372036854775807:=by have:=HN.out;omega
   obtain ⟨b,o,A,c,rfl,hb1,f1⟩:=RX.out k hlt
   replace f1:=(hb.cell (p:=⟨b,_,none⟩) hb1).trans f1
   have e1:colsN rs (k+1)=max (colsN rs k) (rs k).length:=rfl
   have h1:=HM.out k (by omega)
   have h2:=HL.out k hlt
   have HLT:=Hd hlt
   have HB:=Hd hb
   clear hlt hb hk hb1
   obtain ⟨x,hx⟩:∃x,colsN rs (k+1)=x:=⟨_,rfl⟩
   have HX:=Hd hx
   rw[hx]at e1
   clear hx
   generalize colsN rs k=y at e1 h1 ⊢
   generalize (rs k).length=z at e1 f1 h2
   have e3:(max (y:Int) (z:Int))=(x:Int):=by omega
   clear e1 h1 h2
   go_wp2
   go_roundw
   case rel=>exact ⟨k+1,by rw[HX.out],by simp,HLT.out,HB.out⟩
   case measure=>have:=HLT.out;simp[intOf];omega
  .obtain rfl:k=N:=by omega
   have HB:=Hd hb
   clear hb hlt hk RX HL HM
   go_wp2
   go_ret
   exact ⟨rfl,HB.out⟩
theorem cols_m {w:World}{P:Option Addr}{N C:Nat}{rs:Nat->List Rat}(hx:Rs w P N rs)(hN:N<=9223372036854775806)(hl:∀k,k<N->(rs k).length<=9223372036854775807) :
  Calls Tryz.prog 13 #[.slice P N C] w fun e w'=>e=.returned (.int .i64 (colsN rs N))/\Below w.heap.size w w':=by
 have RX:=Hd hx
 have HN:=Hd hN
 have HL:=Hd hl
 have HM:=Hd (fun k (hk:k<=N)=>colsN_le (rs:=rs) (M:=9223372036854775807) (N:=k) (fun j hj=>hl j (by omega)))
 clear hx hl hN
 go_enter Tryz.func13,Tryz.ntmps13
 go_wp2
 go_loopw [3,8] (fun v i wr=>∃k:Nat,v=.int .i64 (colsN rs k:Nat)/\i=.int .i64 k/\k<=N/\Below w.heap.size w wr) (fun _ i _=>N-(intOf i).toNat)
 case atStart=>exact ⟨0,rfl,rfl,Nat.zero_le _,Below.refl _ _⟩
 case round =>
  obtain ⟨k,rfl,rfl,hk,hb⟩:=hrel
  by_cases hlt:k<N
  .have hk1:(0:Int)<=(k:Int):=by omega
   have hk2:(k:Int)<(N:Int):=by omega
   have hk3:(k:Int)+1<=9223372036854775807:=by have:=HN.out;omega
   obtain ⟨b,o,A,c,rfl,hb1,f1⟩:=RX.out k hlt
   replace f1:=(hb.cell (p:=⟨b,_,none⟩) hb1).trans f1
   have e1:colsN rs (k+1)=max (colsN rs k) (rs k).length:=rfl
   have h1:=HM.out k (by omega)
   have h2:=HL.out k hlt
   have HLT:=Hd hlt
   have HB:=Hd hb
   clear hlt hb hk hb1
   obtain ⟨x,hx⟩:∃x,colsN rs (k+1)=x:=⟨_,rfl⟩
   have HX:=Hd hx
   rw[hx]at e1
   clear hx
   generalize colsN rs k=y at e1 h1 ⊢
   generalize (rs k).length=z at e1 f1 h2
   have e3:(max (y:Int) (z:Int))=(x:Int):=by omega
   clear e1 h1 h2
   go_wp2
   go_roundw
   case rel=>exact ⟨k+1,by rw[HX.out],by simp,HLT.out,HB.out⟩
   case measure=>have:=HLT.out;simp[intOf];omega
  .obtain rfl:k=N:=by omega
   have HB:=Hd hb
   clear hb hlt hk RX HL HM
   go_wp2
   go_ret
   exact ⟨rfl,HB.out⟩
theorem rowAt_in {w:World}{b o N C i n c:Nat}{A:Option Addr}(hc:w.cell? ⟨b,o+i,none⟩=some (.slice A n c))(hi:i<N)(hN:N<=9223372036854775807) :
  Calls Tryz.prog 53 #[.slice (some ⟨b,o,none⟩) N C,.int .i64 (i:Int)] w fun e w'=>e=.returned (.slice A n c)/\Below w.heap.size w w':=by
 have h0:(0:Int)<=(i:Int):=by omega
 have h1:¬(i:Int)<0:=by omega
 have h2:¬(N:Int)<=(i:Int):=by omega
 have h3:(i:Int)<(N:Int):=by omega
 clear hi
 go_enter Tryz.func53,Tryz.ntmps53
 go_wp2
 go_ret
 exact ⟨rfl,Below.refl _ _⟩
theorem at_m {w:World}{P:Option Addr}{N C m i j:Nat}{rs:Nat->List Rat}(hM:Mi w P N C rs m)(hm:m<=10000)(hi:i<N)(hl:(rs i).length<=4398046511104) :
  Calls Tryz.prog 16 #[.slice P N C,.int .i64 (i:Int),.int .i64 (j:Int)] w (QR w ((rs i).getD j 0)):=by
 have hN:=hM.n63
 obtain ⟨r,hr⟩:∃r,(rs i).getD j 0=r:=⟨_,rfl⟩
 have HRR:=Hd hr
 rw[hr]
 obtain ⟨b,o,A,c,es,rfl,hb1,hc,hv⟩:=hM.row i hi
 obtain ⟨W0,hW0⟩:∃W0,W0=w.alloc (.cells #[.bool false,.slice none 0 0,.bool false,.slice none 0 0] 32):=⟨_,rfl⟩
 have hbw:Below w.heap.size w W0:=by rw[hW0];exact (Below.refl _ _).alloc (Nat.le_refl _) _
 have tR:Four W0 w.heap.size (.bool false) (.slice none 0 0) (.bool false) (.slice none 0 0):=by rw[hW0];exact Four.new w _ _ _ _ _
 have HR:=Hd (rowAt_in (w:=W0) (C:=C) ((hbw.cell (p:=⟨b,_,none⟩) hb1).trans hc) hi hN)
 replace hv:=hv.to hbw
 have HW0:=Hd hW0
 have HB:=Hd hbw
 have hj0:¬(j:Int)<0:=by omega
 clear hM hi hc hb1 hW0 hbw hr
 go_enter Tryz.func16,Tryz.ntmps16
 go_wp2_with fail
 rw[<-HW0.out]
 refine HR.out.mono ?_
 rintro e V ⟨rfl,bb⟩
 replace tR:=tR.to bb
 replace hv:=hv.to bb
 replace HB:=Hxb HB bb
 clear bb HR HW0
 by_cases hj:j<(rs i).length
 .have hj1:¬((rs i).length:Int)<=(j:Int):=by omega
  have hj2:(j:Int)<((rs i).length:Int):=by omega
  have hj3:(0:Int)<=(j:Int):=by omega
  have hje:j<es.length:=by rw[hv.len];exact hj
  obtain ⟨b',o',rfl,hbo,f0,f1,f2,f3⟩:=hv.row j hje
  have hq:=hv.el j
  rw[getD_at' hje,HRR.out]at hq
  have HC:=Hd (canonical_q hq hm)
  generalize es[j]=X at f0 f1 f2 f3 HC
  obtain ⟨x1,x2,x3,x4⟩:=X
  dsimp only at f0 f1 f2 f3 HC
  clear hq hje hj hv hbo
  go_wp2_with fail
  refine HC.out.mono ?_
  rintro e V2 ⟨y1,y2,y3,y4,rfl,q,bb⟩
  replace tR:=tR.to bb
  replace HB:=Hxb HB bb
  clear bb HC f0 f1 f2 f3
  have RZ:=Hd q
  obtain ⟨V99,eV,u,kp⟩:=pack4 tR Fq.nil y1 y2 y3 y4
  obtain ⟨⟨n1,A1,k1,m1,rfl,rfl⟩,⟨n2,A2,k2,m2,rfl,rfl⟩⟩:=q.fq
  obtain ⟨v0,v1,v2,v3,v4,v5,v6,v7,_⟩:=tR
  have EV:=Hd eV
  have KP:=Hd kp
  have U:=Hd u
  clear eV kp u q
  go_wp2
  rw[EV.out]
  refine bodyPost_ret (v:=.agg #[.bool n1,.slice A1 k1 m1,.bool n2,.slice A2 k2 m2]) (by simp[results,Tryz.f16,go_sem,U.out.c0,U.out.c1,U.out.c2,U.out.c3]) rfl ?_
  exact ⟨_,_,_,_,rfl,RZ.out.k4 KP.out,KP.out.bel _ _ HB.out (by omega)⟩
 .have hj1:((rs i).length:Int)<=(j:Int):=by omega
  obtain rfl:r=0:=by rw[<-HRR.out,getD_ge (l:=rs i) (by omega)]
  obtain ⟨V99,eV,u,kp⟩:=pack4 tR Fq.nil (.bool false) (.slice none 0 0) (.bool false) (.slice none 0 0)
  obtain ⟨v0,v1,v2,v3,v4,v5,v6,v7,_⟩:=tR
  have EV:=Hd eV
  have KP:=Hd kp
  have U:=Hd u
  clear eV kp u hv hj
  go_wp2
  rw[EV.out]
  refine bodyPost_ret (v:=.agg #[.bool false,.slice none 0 0,.bool false,.slice none 0 0]) (by simp[results,Tryz.f16,go_sem,U.out.c0,U.out.c1,U.out.c2,U.out.c3]) rfl ?_
  exact ⟨_,_,_,_,rfl,⟨Zc.zero _,Zc.zero _⟩,KP.out.bel _ _ HB.out (by omega)⟩
theorem column_m {w:World}{P:Option Addr}{N C m j:Nat}{rs:Nat->List Rat}(hM:Mi w P N C rs m)(hm:m<=10000)(hl:N+1<=1000000)(hr:∀i,i<N->(rs i).length<=4398046511104) :
  Calls Tryz.prog 68 #[.slice P N C,.int .i64 (j:Int)] w (VR w (tab N (fun i=>(rs i).getD j 0))):=by
 have HL:=Hd hl
 obtain ⟨g,hg⟩:∃g:Nat->Rat,g=fun i=>(rs i).getD j 0:=⟨_,rfl⟩
 have HA:=Hd (fun (V:World) (hV:Below w.heap.size w V) k (hk:k<N)=>at_m (j:=j) (hM.to hV) hm hk (hr k hk))
 have hgk:∀i,(rs i).getD j 0=g i:=fun i=>by rw[hg]
 simp only[hgk]at HA
 rw[<-hg]
 clear hM hm hr hg hgk
 go_enter Tryz.func68,Tryz.ntmps68
 go_wp2_with (at_make;refine wpList_makeq _ rfl _ _ rfl 0 N rfl rfl (by omega) (by omega) (Nat.zero_le _) (by have:=HL.out;omega) ?_)
 have hacc:Hid (TotV (w.alloc (.cells (flat (List.replicate N E4.z)).toArray 32)) (.slice (some ⟨w.heap.size,0,none⟩) 0 N) 0 g w.heap.size):=TotV.new (Nat.le_refl _) (by have:=HL.out;omega)
 have hbw:Below w.heap.size w (w.alloc (.cells (flat (List.replicate N E4.z)).toArray 32)):=(Below.refl _ _).alloc (Nat.le_refl _) _
 generalize w.alloc (.cells (flat (List.replicate N E4.z)).toArray 32)=w1 at hacc hbw ⊢
 go_loopw [5,12] (fun v i wr=>∃(k:Nat) (A1:Option Addr) (c1:Nat),v=.slice A1 k c1/\i=.int .i64 k/\k<=N/\Hid (TotV wr (.slice A1 k c1) k g w.heap.size)/\Below w.heap.size w wr) (fun _ i _=>N-(intOf i).toNat)
 case atStart=>exact ⟨0,_,_,rfl,rfl,Nat.zero_le _,hacc,hbw⟩
 case round =>
  obtain ⟨k,A1,c1,rfl,rfl,hk,hT,hb⟩:=hrel
  clear hacc hbw
  by_cases hlt:k<N
  .have hk1:(0:Int)<=(k:Int):=by omega
   have hk2:(k:Int)<(N:Int):=by omega
   have hk3:(k:Int)+1<=9223372036854775807:=by have:=HL.out;omega
   have HC:=Hd (HA.out wr hb k hlt)
   have HB:=Hd hb
   have HLT:=Hd hlt
   clear hb hlt hk
   go_wp2_with fail
   refine (HC.out).mono ?_
   rintro e V ⟨x1,x2,x3,x4,rfl,q,bb⟩
   have bb2:Below V.heap.size V (V.alloc (.cells #[x1,x2,x3,x4] 32)):=(Below.refl _ _).alloc (Nat.le_refl _) _
   have c5:=(Hp.new V #[x1,x2,x3,x4] 32).four
   have hB1:=HB.out.trans (bb.mono HB.out.size)
   have hB2:=Bxb hB1 bb2
   obtain ⟨v',X,hrun,hT2,hbel⟩:=qapp ((hT.out.to bb).to bb2) hB2.size (by have:=HL.out;have:=HLT.out;omega) (e:=⟨x1,x2,x3,x4⟩) q.fq (q.to bb2) (a:=⟨V.heap.size,0,none⟩) (c:=1) c5.c0 c5.c1 c5.c2 c5.c3 38
   obtain ⟨A3,c3,rfl⟩:=hT2.sl
   have HRUN:=Hd hrun
   have HE:Hid (TotV X (.slice A3 (k+1) c3) (k+1) g w.heap.size/\Below w.heap.size w X):=⟨hT2,hB2.trans hbel⟩
   clear bb2 c5 hbel hrun bb q hT2 hB1 hB2
   go_wp2_with (at_builtin;refine wpList_append_run rfl (.tmp 15) (.tmp 20) 38 rfl (by rfl) (by rfl) HRUN.out ?_;clear HRUN)
   go_roundw
   case rel=>exact ⟨k+1,A3,c3,rfl,by simp,HLT.out,HE.out.1,HE.out.2⟩
   case measure=>have:=HLT.out;simp[intOf];omega
  .obtain rfl:k=N:=by omega
   have HT:=hT
   have HB:=Hd hb
   clear hT hb hlt hk
   go_wp2
   go_ret
   exact HT.out.vtab (by have:=HL.out;omega) HB.out
theorem mulVec_m {w:World}{P A':Option Addr}{N C m c' l:Nat}{rs:Nat->List Rat}{fs:List E4}{ss:List Rat}(hM:Mi w P N C rs m)(hX:Vi w A' c' fs ss l)(hm:0<m)(hl0:0<l)(hl:N+1<=1000000)(hr:∀i,i<N->(rs i).length<=4398046511104)(hs:ss.length<=4398046511104)(hb0:∀i,i<N->(max (rs i).length ss.length)*(m+l+1)+1+(m+l)+1<=10000) :
  Calls Tryz.prog 38 #[.slice P N C,.slice A' ss.length c'] w (VR w (tab N (fun i=>dotQ (rs i) ss))):=by
 have HL:=Hd hl
 obtain ⟨g,hg⟩:∃g:Nat->Rat,g=fun i=>dotQ (rs i) ss:=⟨_,rfl⟩
 have HD:=Hd (fun (V:World) (hV:Below w.heap.size w V) k (hk:k<N) {A:Option Addr} {c:Nat} {es:List E4} (h:Vi V A c es (rs k) m)=>vdot_v (c:=c) (c':=c') h (hX.to hV) hm hl0 (hr k hk) hs (hb0 k hk))
 have HR:=Hd (fun (V:World) (hV:Below w.heap.size w V)=>(hM.to hV).row)
 have hgk:∀i,dotQ (rs i) ss=g i:=fun i=>by rw[hg]
 simp only[hgk]at HD
 rw[<-hg]
 clear hM hX hm hl0 hr hs hb0 hg hgk
 go_enter Tryz.func38,Tryz.ntmps38
 go_wp2_with (at_make;refine wpList_makeq _ rfl _ _ rfl 0 N rfl rfl (by omega) (by omega) (Nat.zero_le _) (by have:=HL.out;omega) ?_)
 have hacc:Hid (TotV (w.alloc (.cells (flat (List.replicate N E4.z)).toArray 32)) (.slice (some ⟨w.heap.size,0,none⟩) 0 N) 0 g w.heap.size):=TotV.new (Nat.le_refl _) (by have:=HL.out;omega)
 have hbw:Below w.heap.size w (w.alloc (.cells (flat (List.replicate N E4.z)).toArray 32)):=(Below.refl _ _).alloc (Nat.le_refl _) _
 generalize w.alloc (.cells (flat (List.replicate N E4.z)).toArray 32)=w1 at hacc hbw ⊢
 go_loopw [5,13] (fun v i wr=>∃(k:Nat) (A1:Option Addr) (c1:Nat),v=.slice A1 k c1/\i=.int .i64 k/\k<=N/\Hid (TotV wr (.slice A1 k c1) k g w.heap.size)/\Below w.heap.size w wr) (fun _ i _=>N-(intOf i).toNat)
 case atStart=>exact ⟨0,_,_,rfl,rfl,Nat.zero_le _,hacc,hbw⟩
 case round =>
  obtain ⟨k,A1,c1,rfl,rfl,hk,hT,hb⟩:=hrel
  clear hacc hbw
  by_cases hlt:k<N
  .have hk1:(0:Int)<=(k:Int):=by omega
   have hk2:(k:Int)<(N:Int):=by omega
   have hk3:(k:Int)+1<=9223372036854775807:=by have:=HL.out;omega
   obtain ⟨b,o,A,c,es,rfl,hb1,cc,hv⟩:=HR.out wr hb k hlt
   have HC:=Hd (HD.out wr hb k hlt hv)
   clear hb1 hv
   have HB:=Hd hb
   have HLT:=Hd hlt
   clear hb hlt hk
   go_wp2_with fail
   refine (HC.out).mono ?_
   rintro e V ⟨x1,x2,x3,x4,rfl,q,bb⟩
   have bb2:Below V.heap.size V (V.alloc (.cells #[x1,x2,x3,x4] 32)):=(Below.refl _ _).alloc (Nat.le_refl _) _
   have c5:=(Hp.new V #[x1,x2,x3,x4] 32).four
   have hB1:=HB.out.trans (bb.mono HB.out.size)
   have hB2:=Bxb hB1 bb2
   obtain ⟨v',X,hrun,hT2,hbel⟩:=qapp ((hT.out.to bb).to bb2) hB2.size (by have:=HL.out;have:=HLT.out;omega) (e:=⟨x1,x2,x3,x4⟩) q.fq (q.to bb2) (a:=⟨V.heap.size,0,none⟩) (c:=1) c5.c0 c5.c1 c5.c2 c5.c3 38
   obtain ⟨A3,c3,rfl⟩:=hT2.sl
   have HRUN:=Hd hrun
   have HE:Hid (TotV X (.slice A3 (k+1) c3) (k+1) g w.heap.size/\Below w.heap.size w X):=⟨hT2,hB2.trans hbel⟩
   clear bb2 c5 hbel hrun bb q hT2 hB1 hB2 cc HC
   go_wp2_with (at_builtin;refine wpList_append_run rfl (.tmp 17) (.tmp 21) 38 rfl (by rfl) (by rfl) HRUN.out ?_;clear HRUN)
   go_roundw
   case rel=>exact ⟨k+1,A3,c3,rfl,by simp,HLT.out,HE.out.1,HE.out.2⟩
   case measure=>have:=HLT.out;simp[intOf];omega
  .obtain rfl:k=N:=by omega
   have HT:=hT
   have HB:=Hd hb
   clear hT hb hlt hk
   go_wp2
   go_ret
   exact HT.out.vtab (by have:=HL.out;omega) HB.out
theorem Hp.cellAt {W:World}{g:Nat}{cs:Array Value}{t:TypeId}(h:Hp W g (.cells cs t (0,0)))(j:Nat):W.cell? ⟨g,j,none⟩=cs[j]?:=by simp[World.cell?,show W.heap[g]?=_ from h]
theorem sm2_of {z:Int}(h:z.natAbs<18446744073709551616):Sm 2 z:=h
theorem rats_qm {ns:List Int}(h:ns.all (fun n=>decide (n.natAbs<18446744073709551616))=true)(i:Nat):Qm 2 ((ratsOf ns).getD i 0):=by
 by_cases hi:i<ns.length
 .rw[ratsOf_getD hi,getD_lt hi]
  exact Qm.int (sm2_of (by simpa using (List.all_eq_true.1 h) _ (List.getElem_mem hi))) (by decide)
 .rw[getD_ge (by rw[ratsOf_length];omega)]
  exact Qm.zero (by decide)
theorem Vc.one {W:World}{x1 x2 x3 x4:Value}{r:Rat}(q:Qc W x1 x2 x3 x4 r):Vc (W.alloc (.cells #[x1,x2,x3,x4] 32)) (some ⟨W.heap.size,0,none⟩) 1 [⟨x1,x2,x3,x4⟩] [r]:=by
 have h:=Row.one (Hp.new W #[x1,x2,x3,x4] 32) q.fq
 exact h.vc rfl rfl (by decide) fun i hi=>by
  obtain rfl:i=0:=by omega
  exact q.to ((Below.refl _ _).alloc (Nat.le_refl _) _)
theorem Vc.two {W:World}{x1 x2 x3 x4 y1 y2 y3 y4:Value}{r s:Rat}(q:Qc W x1 x2 x3 x4 r)(q':Qc W y1 y2 y3 y4 s):Vc (W.alloc (.cells #[x1,x2,x3,x4,y1,y2,y3,y4] 32)) (some ⟨W.heap.size,0,none⟩) 2 [⟨x1,x2,x3,x4⟩,⟨y1,y2,y3,y4⟩] [r,s]:=by
 have hp:Row (W.alloc (.cells #[x1,x2,x3,x4,y1,y2,y3,y4] 32)) W.heap.size [⟨x1,x2,x3,x4⟩,⟨y1,y2,y3,y4⟩]:=⟨Hp.new W #[x1,x2,x3,x4,y1,y2,y3,y4] 32,fun e he=>by
  simp only[List.mem_cons,List.not_mem_nil,or_false]at he
  rcases he with rfl|rfl
  .exact q.fq
  .exact q'.fq⟩
 have bb:Below W.heap.size W (W.alloc (.cells #[x1,x2,x3,x4,y1,y2,y3,y4] 32)):=(Below.refl _ _).alloc (Nat.le_refl _) _
 exact hp.vc rfl rfl (by decide) fun i hi=>by
  match i,hi with
  | 0,_=>exact q.to bb
  | 1,_=>exact q'.to bb
theorem fill_m {w:World}{N F:Nat}{caps:Array Value}{rs:Nat->List Rat}(hl:N+1<=1000000)(ec:∀args V,(callFunc F args).run Tryz.prog V=.ok (.enter F args) V)
  (hC:∀(V:World),Below w.heap.size w V->∀i:Nat,i<N->Calls Tryz.prog F (#[.int .i64 (i:Int)]++caps) V (VR V (rs i))) :
  Calls Tryz.prog 63 #[.agg #[.int .i64 (N:Int),.func (.func F) #[] caps]] w (MR w N rs):=by
 have HL:=Hd hl
 have EC:=Hd ec
 have HC:=Hd hC
 obtain ⟨W0,hW0⟩:∃W0,W0=w.alloc (.cells #[.int .i64 (N:Int),.func (.func F) #[] caps] 74):=⟨_,rfl⟩
 have hbw:Below w.heap.size w W0:=by rw[hW0];exact (Below.refl _ _).alloc (Nat.le_refl _) _
 have hp:Hp W0 w.heap.size (.cells #[.int .i64 (N:Int),.func (.func F) #[] caps] 74 (0,0)):=by rw[hW0];exact Hp.new _ _ _
 have q0:W0.cell? ⟨w.heap.size,0,none⟩=some (.int .i64 (N:Int)):=(hp.cellAt 0).trans rfl
 have q1:W0.cell? ⟨w.heap.size,1,none⟩=some (.func (.func F) #[] caps):=(hp.cellAt 1).trans rfl
 have hlt0:=hp.lt
 have HP:Hid (∀V,Below W0.heap.size W0 V->V.cell? ⟨w.heap.size,0,none⟩=some (.int .i64 (N:Int))/\V.cell? ⟨w.heap.size,1,none⟩=some (.func (.func F) #[] caps)):=fun V hV=>⟨(hV.cell (p:=⟨_,_,none⟩) hlt0).trans q0,(hV.cell (p:=⟨_,_,none⟩) hlt0).trans q1⟩
 have HW:=Hd hbw
 have HW0:=Hd hW0
 rw[hW0]at q0
 have q2:=(HP.out (W0.alloc (.cells (zrow N) 38)) ((Below.refl _ _).alloc (Nat.le_refl _) _)).1
 clear hl ec hC hW0 hp hbw q1 hlt0
 go_enter Tryz.func63,Tryz.ntmps63
 go_wp2_with (at_make;rw[<-HW0.out];refine wpList_makes W0 rfl _ _ rfl 0 N rfl rfl (by omega) (by omega) (Nat.zero_le _) (by have:=HL.out;omega) ?_)
 have hacc:Hid (TotS (Vs rs) (W0.alloc (.cells (zrow N) 38)) (.slice (some ⟨W0.heap.size,0,none⟩) 0 N) 0 W0.heap.size):=TotS.new (Nat.le_refl _) (by have:=HL.out;omega)
 have hb1:Below W0.heap.size W0 (W0.alloc (.cells (zrow N) 38)):=(Below.refl _ _).alloc (Nat.le_refl _) _
 generalize W0.alloc (.cells (zrow N) 38)=w1 at hacc hb1 q2 ⊢
 clear HW0 q2 q0
 go_loopw [3,10] (fun v i wr=>∃(k:Nat) (A1:Option Addr) (c1:Nat),v=.slice A1 k c1/\i=.int .i64 k/\k<=N/\Hid (TotS (Vs rs) wr (.slice A1 k c1) k W0.heap.size)/\Below W0.heap.size W0 wr) (fun _ i _=>N-(intOf i).toNat)
 case atStart=>exact ⟨0,_,_,rfl,rfl,Nat.zero_le _,hacc,hb1⟩
 case round =>
  obtain ⟨k,A1,c1,rfl,rfl,hk,hT,hb⟩:=hrel
  clear hacc hb1
  by_cases hlt:k<N
  .have hk1:(0:Int)<=(k:Int):=by omega
   have hk2:(k:Int)<(N:Int):=by omega
   have hk3:(k:Int)+1<=9223372036854775807:=by have:=HL.out;omega
   obtain ⟨q0,q1⟩:=HP.out wr hb
   have HCK:=Hd (HC.out wr (HW.out.trans (hb.mono HW.out.size)) k hlt)
   have HB:=Hd hb
   have HLT:=Hd hlt
   clear hb hlt hk
   go_wp2_with fail
   rw[EC.out]
   go_simp
   refine HCK.out.mono ?_
   rintro e V ⟨A2,c2,fl2,rfl,hv,bb⟩
   have bb2:Below V.heap.size V (V.alloc (.cells #[.slice A2 (rs k).length c2] 38)):=(Below.refl _ _).alloc (Nat.le_refl _) _
   have c5:=(Hp.new V #[.slice A2 (rs k).length c2] 38).one
   have hB1:=HB.out.trans (bb.mono HB.out.size)
   have hB2:=Bxb hB1 bb2
   obtain ⟨v',X,hrun,hT2,hbel⟩:=sapp (Vs.kept rs) ((hT.out.mv (Vs.kept rs) bb).mv (Vs.kept rs) bb2) hB2.size (by have:=HL.out;have:=HLT.out;omega) ⟨_,_,_,rfl⟩ ⟨A2,c2,fl2,rfl,hv.to bb2⟩ (a:=⟨V.heap.size,0,none⟩) (c:=1) c5 22
   obtain ⟨A3,c3,rfl⟩:=hT2.sl
   have HRUN:=Hd hrun
   have HE:Hid (TotS (Vs rs) X (.slice A3 (k+1) c3) (k+1) W0.heap.size/\Below W0.heap.size W0 X):=⟨hT2,hB2.trans hbel⟩
   clear bb2 c5 hbel hrun bb hv hT2 hB1 hB2 q0 q1 HCK
   go_wp2_with (at_builtin;refine wpList_append_run rfl (.tmp 13) (.tmp 18) 22 rfl (by rfl) (by rfl) HRUN.out ?_;clear HRUN)
   go_roundw
   case rel=>exact ⟨k+1,A3,c3,rfl,by simp,HLT.out,HE.out.1,HE.out.2⟩
   case measure=>have:=HLT.out;simp[intOf];omega
  .obtain rfl:k=N:=by omega
   have HB:=Hd hb
   clear hb hlt hk
   go_wp2
   go_ret
   exact ⟨A1,c1,rfl,hT.out.mc,HW.out.trans (HB.out.mono HW.out.size)⟩
theorem Four.setOther {W:World}{g h:Nat}{a b c d:Value}{cs:Array Value}(t:Four W g a b c d)(hne:g≠h):Four (W.setRow h cs) g a b c d:=by
 have e:(W.setRow h cs).heap[g]?=W.heap[g]?:=setRow_other W h g cs hne
 have hc:∀j,(W.setRow h cs).cell? ⟨g,j,none⟩=W.cell? ⟨g,j,none⟩:=fun j=>World.cell?_of_block (a:=⟨g,j,none⟩) e
 have hf:∀j,(W.setRow h cs).frozen? ⟨g,j,none⟩=W.frozen? ⟨g,j,none⟩:=fun j=>by unfold World.frozen?;rw[e]
 exact ⟨(hc _).trans t.c0,(hc _).trans t.c1,(hc _).trans t.c2,(hc _).trans t.c3,(hf _).trans t.f0,(hf _).trans t.f1,(hf _).trans t.f2,(hf _).trans t.f3,by rw[setRow_size];exact t.lt⟩
def RowT (W:World)(g L:Nat)(f:Nat->Rat):Prop:=∃fl,Row W g fl/\fl.length=L/\∀i,i<L->Qc W (fl.getD i E4.z).a (fl.getD i E4.z).b (fl.getD i E4.z).c (fl.getD i E4.z).d (f i)
theorem RowT.to {W V:World}{g L:Nat}{f:Nat->Rat}(h:RowT W g L f)(hb:Below W.heap.size W V):RowT V g L f:=by
 obtain ⟨fl,h1,h2,h3⟩:=h
 exact ⟨fl,h1.to hb,h2,fun i hi=>(h3 i hi).to hb⟩
theorem RowT.congr {W:World}{g L:Nat}{f f':Nat->Rat}(h:RowT W g L f)(hf:∀i,i<L->f i=f' i):RowT W g L f':=by
 obtain ⟨fl,h1,h2,h3⟩:=h
 exact ⟨fl,h1,h2,fun i hi=>by rw[<-hf i hi];exact h3 i hi⟩
theorem RowT.new {W:World}{L:Nat} : RowT (W.alloc (.cells (flat (List.replicate L E4.z)).toArray 32)) W.heap.size L (fun _=>0) :=
 ⟨List.replicate L E4.z,Row.new W L,by simp,fun i hi=>by
  rw[show (List.replicate L E4.z).getD i E4.z=E4.z from by simp[List.getD,List.getElem?_replicate,hi]]
  exact qc_z _⟩
theorem RowT.set {W:World}{g L j:Nat}{fl:List E4}{S a:Nat->Rat}(h1:Row W g fl)(h2:fl.length=L)(h3:∀i,i<L->Qc W (fl.getD i E4.z).a (fl.getD i E4.z).b (fl.getD i E4.z).c (fl.getD i E4.z).d (midF S a j i))(hj:j<L){e:E4}(he:e.fq)(hq:Qc W e.a e.b e.c e.d (S j+a j)) :
  RowT (W.setRow g (flat (fl.set j e)).toArray) g L (midF S a (j+1)):=by
 have kw:Kw W (W.setRow g (flat (fl.set j e)).toArray):=h1.kw
 refine ⟨fl.set j e,h1.app he,by simpa using h2,fun i hi=>?_⟩
 by_cases hij:i=j
 .subst hij
  rw[show (fl.set i e).getD i E4.z=e from by simp[List.getD,show i<fl.length by omega],show midF S a (i+1) i=S i+a i from by unfold midF;rw[if_pos (by omega)]]
  exact kw.qc hq
 .rw[show (fl.set j e).getD i E4.z=fl.getD i E4.z from by simp[List.getD,List.getElem?_set,Ne.symm hij],show midF S a (j+1) i=midF S a j i from by unfold midF;have e:(i<j+1)=(i<j):=propext (by omega);simp only[e]]
  exact kw.qc (h3 i hi)
theorem RowT.vr {w W:World}{g L:Nat}{f:Nat->Rat}(h:RowT W g L f)(hL:L<=4398046511104)(hb:Below w.heap.size w W):VR w (tab L f) (.returned (.slice (some ⟨g,0,none⟩) L L)) W:=by
 obtain ⟨fl,h1,h2,h3⟩:=h
 refine ⟨some ⟨g,0,none⟩,L,fl,by rw[tab_length],h1.vc h2 (tab_length _ _) hL fun i hi=>?_,hb⟩
 rw[tab_getD f hi]
 exact h3 i hi
theorem ws_v {w:World}{A' P:Option Addr}{c' N C l m L:Nat}{fs:List E4}{ys:List Rat}{rs:Nat->List Rat}(hY:Vi w A' c' fs ys l)(hM:Mi w P N C rs m)(hl0:0<l)(hm:0<m)(hL:L<=4398046511104)(hlen:∀k,k<N->(rs k).length<=L)(hy:ys.length<=4398046511104)
  (hb0:(min ys.length N)*(l+m+1)+1+(l+m)+1<=10000) :
  Calls Tryz.prog 73 #[.slice A' ys.length c',.slice P N C,.int .i64 (L:Int)] w (VR w (tab L (fun j=>sumF (fun i=>ys.getD i 0*(rs i).getD j 0) (min ys.length N)))):=by
 have hN63:=hM.n63
 obtain ⟨M,hMM⟩:∃M,min ys.length N=M:=⟨_,rfl⟩
 obtain ⟨a,ha⟩:∃a:Nat->Nat->Rat,a=fun k j=>ys.getD k 0*(rs k).getD j 0:=⟨_,rfl⟩
 obtain ⟨S,hS⟩:∃S:Nat->Nat->Rat,S=fun k j=>sumF (fun i=>ys.getD i 0*(rs i).getD j 0) k:=⟨_,rfl⟩
 have hak:Hid (∀k j,ys.getD k 0*(rs k).getD j 0=a k j):=fun k j=>by rw[ha]
 have hsk:Hid (∀k j,S (k+1) j=S k j+a k j):=fun k j=>by rw[hS,ha];rfl
 have hs0:Hid (∀j,S 0 j=0):=fun j=>by rw[hS];rfl
 have mA:∀k j,k<N->Qm (l+m) (ys.getD k 0*(rs k).getD j 0):=fun k j hk=>by
  obtain ⟨b,o,A,c,es,e,h1,h2,h3⟩:=hM.row k hk
  exact ((hY.el k).qm hl0).mul ((h3.el j).qm hm)
 have mS:∀k,k<=N->∀j,Qm (k*(l+m+1)+1) (S k j):=fun k=>by
  induction k with
  | zero=>intro _ j;rw[hs0.out];exact Qm.zero (by omega)
  | succ k ih =>
   intro hk j
   rw[hsk.out,<-hak.out]
   exact ((ih (by omega) j).add (mA k j (by omega))).mono (by rw[Nat.add_mul];omega)
 have HSY:=Hd (fun (V:World) (hV:Below w.heap.size w V) k {v:Int} (hv:sgnQ (ys.getD k 0)=v)=>sign_q ((hY.el k).to hV) hv)
 have HSX:=Hd (fun (V:World) (x1 x2 x3 x4:Value) (r:Rat) (q:Qi V x1 x2 x3 x4 r m) {v:Int} (hv:sgnQ r=v)=>sign_q q hv)
 have HML:=Hd (fun (V:World) (hV:Below w.heap.size w V) k (x1 x2 x3 x4:Value) (r:Rat) (q:Qi V x1 x2 x3 x4 r m)=>mul_q ((hY.el k).to hV) q hl0 hm (by omega))
 have HAD:=Hd (fun (V:World) k (hk:k<M) j (x1 x2 x3 x4 y1 y2 y3 y4:Value) (p:Qc V x1 x2 x3 x4 (S k j)) (q:Qc V y1 y2 y3 y4 (a k j))=>by
  have h2:k*(l+m+1)<=min ys.length N*(l+m+1):=Nat.mul_le_mul_right _ (by omega)
  exact add_q (p.qi (mS k (by omega) j) (by omega)) (q.qi (hak.out k j▸mA k j (by omega)) (by omega)) (by omega) (by omega) (by omega))
 have HR:=Hd hM.row
 have HYR:=Hd hY.row
 have HYF:=Hd hY.fq
 have HYL:Hid (∀k,k<M->k<fs.length):=fun k hk=>by rw[hY.len];omega
 have HKN:Hid (∀k,k<M->k<N):=fun k hk=>by omega
 have HLN:=Hd hlen
 obtain ⟨Y,hYY⟩:∃Y,ys.length=Y:=⟨_,rfl⟩
 have eM:min (Y:Int) (N:Int)=(M:Int):=by omega
 have HM63:Hid (M+1<=9223372036854775807):=by show _<=_;omega
 have HLL:=Hd hL
 have HSS:Hid (∀j,sumF (fun i=>ys.getD i 0*(rs i).getD j 0) M=S M j):=fun j=>by rw[hS]
 have HFIN:Hid (tab L (fun j=>sumF (fun i=>ys.getD i 0*(rs i).getD j 0) M)=tab L (S M)):=by rw[hS];rfl
 have HYZ:=Hd (fun k=>(sgnQ_zero (r:=ys.getD k 0)).1)
 rw[hMM,HFIN.out]
 rw[hYY]at hy ⊢
 clear hY hM hl0 hm hL hlen hb0 hMM ha hS mA mS hYY HFIN hN63
 go_enter Tryz.func73,Tryz.ntmps73
 go_wp2_with (at_make;refine wpList_makeq _ rfl _ _ rfl L L rfl rfl rfl rfl (Nat.le_refl _) HLL.out ?_)
 have hacc:Hid (RowT (w.alloc (.cells (flat (List.replicate L E4.z)).toArray 32)) w.heap.size L (S 0)):=RowT.new.congr (fun i _=>(hs0.out i).symm)
 have hbw:Below w.heap.size w (w.alloc (.cells (flat (List.replicate L E4.z)).toArray 32)):=(Below.refl _ _).alloc (Nat.le_refl _) _
 generalize w.alloc (.cells (flat (List.replicate L E4.z)).toArray 32)=w1 at hacc hbw ⊢
 go_loopw [18] (fun i wr=>∃k:Nat,i=.int .i64 k/\k<=M/\Hid (RowT wr w.heap.size L (S k))/\Below w.heap.size w wr) (fun i _=>M-(intOf i).toNat)
 case atStart=>exact ⟨0,rfl,Nat.zero_le _,hacc,hbw⟩
 case round =>
  obtain ⟨k,rfl,hk,hT,hb⟩:=hrel
  clear hacc hbw
  by_cases hlt:k<M
  .have hk1:(0:Int)<=(k:Int):=by omega
   have hk2:(k:Int)<(M:Int):=by omega
   have hkY:(k:Int)<(Y:Int):=by omega
   have hkN:(k:Int)<(N:Int):=by omega
   have hk3:(k:Int)+1<=9223372036854775807:=by have:=HM63.out;omega
   have hkf:=HYL.out k hlt
   obtain ⟨b,o,hA,hbo,f0,f1,f2,f3⟩:=HYR.out k hkf
   have fY:=HYF.out _ (List.getElem_mem hkf)
   have HSK:=Hd (fun (V:World) (hV:Below w.heap.size w V) {v:Int} (hv:sgnQ (ys.getD k 0)=v)=>HSY.out V hV k hv)
   have HMK:=Hd (fun (V:World) (hV:Below w.heap.size w V)=>HML.out V hV k)
   rw[getD_at' hkf]at HSK HMK
   obtain ⟨E,hE⟩:∃E,fs[k]=E:=⟨_,rfl⟩
   rw[hE]at f0 f1 f2 f3 HSK HMK fY
   obtain ⟨y1,y2,y3,y4⟩:=E
   dsimp only at f0 f1 f2 f3 HSK HMK fY
   have FY:Hid (∀V,Below w.heap.size w V->V.cell? ⟨b,o+k*4,none⟩=some y1/\V.cell? ⟨b,o+k*4+1,none⟩=some y2/\V.cell? ⟨b,o+k*4+2,none⟩=some y3/\V.cell? ⟨b,o+k*4+3,none⟩=some y4):=fun V hV =>
    ⟨(hV.cell (p:=⟨b,_,none⟩) hbo).trans f0,(hV.cell (p:=⟨b,_,none⟩) hbo).trans f1,(hV.cell (p:=⟨b,_,none⟩) hbo).trans f2,(hV.cell (p:=⟨b,_,none⟩) hbo).trans f3⟩
   obtain ⟨b',o',Ak,ck,ek,hP,hbo',hc,hv⟩:=HR.out k (HKN.out k hlt)
   have FK:Hid (∀V,Below w.heap.size w V->V.cell? ⟨b',o'+k,none⟩=some (.slice Ak (rs k).length ck)):=fun V hV=>(hV.cell (p:=⟨b',_,none⟩) hbo').trans hc
   have hLk:=HLN.out k (HKN.out k hlt)
   obtain ⟨Lk,hLkk⟩:∃Lk,(rs k).length=Lk:=⟨_,rfl⟩
   rw[hLkk]at FK hLk
   have hADK:=Hd (fun V=>HAD.out V k hlt)
   obtain ⟨Sk,hSk⟩:∃Sk,S k=Sk:=⟨_,rfl⟩
   obtain ⟨ak,hak2⟩:∃ak,a k=ak:=⟨_,rfl⟩
   rw[hSk,hak2]at hADK
   rw[hSk]at hT
   have hNE:Hid (∀j,S (k+1) j=Sk j+ak j):=fun j=>by rw[hsk.out,hSk,hak2]
   have hAE:Hid (∀j,ys.getD k 0*(rs k).getD j 0=ak j):=fun j=>by rw[hak.out,hak2]
   have hAZ:Hid (∀j,Lk<=j->ak j=0):=fun j hj=>by rw[<-hAE.out,getD_ge (l:=rs k) (by rw[hLkk];exact hj),Rat.mul_zero]
   have HYZ2:Hid (sgnQ (ys.getD k 0)=0->∀j,ak j=0):=fun h j=>by rw[<-hAE.out,HYZ.out k h,Rat.zero_mul]
   have HVE:Hid (∀j,j<Lk->∃b o,Ak=some ⟨b,o,none⟩/\b<w.heap.size/\∃n1 A1 j1 c1 n2 A2 j2 c2,w.cell? ⟨b,o+j*4,none⟩=some (.bool n1)/\w.cell? ⟨b,o+j*4+1,none⟩=some (.slice A1 j1 c1)/\w.cell? ⟨b,o+j*4+2,none⟩=some (.bool n2)/\w.cell? ⟨b,o+j*4+3,none⟩=some (.slice A2 j2 c2) /\
     Qi w (.bool n1) (.slice A1 j1 c1) (.bool n2) (.slice A2 j2 c2) ((rs k).getD j 0) m):=fun j hj=>by
    have hj':j<ek.length:=by rw[hv.len,hLkk];exact hj
    obtain ⟨b,o,e1,hB,g0,g1,g2,g3⟩:=hv.row j hj'
    have he:=hv.el j
    rw[getD_at' hj']at he
    have hf:=hv.fq _ (List.getElem_mem hj')
    generalize ek[j]=E at *
    obtain ⟨x1,x2,x3,x4⟩:=E
    obtain ⟨⟨n1,A1,j1,m1,e5,e6⟩,⟨n2,A2,j2,m2,e7,e8⟩⟩:=hf
    dsimp only at e5 e6 e7 e8
    subst e5 e6 e7 e8
    exact ⟨b,o,e1,hB,n1,A1,j1,m1,n2,A2,j2,m2,g0,g1,g2,g3,he⟩
   obtain ⟨s,hs⟩:∃s,sgnQ (ys.getD k 0)=s:=⟨_,rfl⟩
   have HSG:=Hd hs
   have HB:=Hd hb
   have HLT:=Hd hlt
   have HLk:=Hd hLk
   rw[hs]at HYZ2
   have fs0:=(hb.cell (p:=⟨b,_,none⟩) hbo).trans f0
   have fs1:=(hb.cell (p:=⟨b,_,none⟩) hbo).trans f1
   have fs2:=(hb.cell (p:=⟨b,_,none⟩) hbo).trans f2
   have fs3:=(hb.cell (p:=⟨b,_,none⟩) hbo).trans f3
   clear f0 f1 f2 f3 hbo hbo' hc hv hLkk hSk hak2 hs hlt hb hk hkf hE HSY HML HAD HR HYR HYF HYL HKN HLN hak hsk hs0 HSS HYZ hLk
   subst hA
   subst hP
   go_wp2_with fail
   refine (HSK.out wr HB.out HSG.out).mono ?_
   rintro e V ⟨rfl,bb⟩
   replace hT:=Hd (hT.out.to bb)
   replace HB:=Hxb HB bb
   clear bb fs0 fs1 fs2 fs3 HSK HSG
   by_cases hs0:s=0
   .have hTN:Hid (RowT V w.heap.size L (S (k+1))):=hT.out.congr fun j _=>by rw[hNE.out,HYZ2.out hs0 j,Rat.add_zero]
    subst hs0
    clear hT
    go_wp2
    go_roundw
    case rel=>exact ⟨k+1,by simp,HLT.out,hTN,HB.out⟩
    case measure=>have:=HLT.out;simp[intOf];omega
   .have hs1:(s==0)=false:=by simpa using hs0
    have fK:=FK.out V HB.out
    go_wp2
    go_loopw [32] (fun jv wi=>∃j:Nat,jv=.int .i64 j/\j<=Lk/\Hid (RowT wi w.heap.size L (midF Sk ak j))/\Below w.heap.size w wi) (fun jv _=>Lk-(intOf jv).toNat)
    case atStart=>exact ⟨0,rfl,Nat.zero_le _,hT.out.congr (fun i _=>by unfold midF;rw[if_neg (Nat.not_lt_zero _)]),HB.out⟩
    case round =>
     obtain ⟨j,rfl,hj,hTj,hbj⟩:=hrel
     clear hT HB fK
     by_cases hjL:j<Lk
     .have hjn:j<L:=Nat.lt_of_lt_of_le hjL HLk.out
      have hj1:(0:Int)<=(j:Int):=by omega
      have hj2:(j:Int)<(Lk:Int):=by omega
      have hj4:(j:Int)<(L:Int):=by omega
      have hj3:(j:Int)+1<=9223372036854775807:=by have:=HLL.out;omega
      obtain ⟨b2,o2,hAk,hBk,n1,A1,j1,c1,n2,A3,j2,c3,g0,g1,g2,g3,hqi⟩:=HVE.out j hjL
      subst hAk
      have f0:=(hbj.cell (p:=⟨b2,o2+j*4,none⟩) hBk).trans g0
      have f1:=(hbj.cell (p:=⟨b2,o2+j*4+1,none⟩) hBk).trans g1
      have f2:=(hbj.cell (p:=⟨b2,o2+j*4+2,none⟩) hBk).trans g2
      have f3:=(hbj.cell (p:=⟨b2,o2+j*4+3,none⟩) hBk).trans g3
      have hX:=hqi.to hbj
      have hbw1:Below wr.heap.size wr (wr.alloc (.cells #[.bool n1,.slice A1 j1 c1,.bool n2,.slice A3 j2 c3] 32)):=(Below.refl _ _).alloc (Nat.le_refl _) _
      have tX:=Four.new wr (.bool n1) (.slice A1 j1 c1) (.bool n2) (.slice A3 j2 c3) 32
      replace hX:=hX.to hbw1
      have hTj2:=Hd (hTj.out.to hbw1)
      have HBW:=Hd (Bxb hbj hbw1)
      have hAEJ:=hAE.out j
      obtain ⟨r,hr⟩:∃r,(rs k).getD j 0=r:=⟨_,rfl⟩
      rw[hr]at hX hAEJ
      have HXQ:=Hd hX
      have HAEJ:=Hd hAEJ
      have HJL:=Hd hjL
      have HJN:=Hd hjn
      obtain ⟨t,ht⟩:∃t,sgnQ r=t:=⟨_,rfl⟩
      have HTT:=Hd ht
      obtain ⟨W1,hW1⟩:∃W1,W1=wr.alloc (.cells #[.bool n1,.slice A1 j1 c1,.bool n2,.slice A3 j2 c3] 32):=⟨_,rfl⟩
      have HW1:=Hd hW1
      have tX1:=tX
      rw[<-hW1]at HXQ hTj2 HBW tX1
      have k0:=tX.c0
      have k1:=tX.c1
      have k2:=tX.c2
      have k3:=tX.c3
      obtain ⟨gx,hgx⟩:∃gx,wr.heap.size=gx:=⟨_,rfl⟩
      have HGX:Hid (w.heap.size<gx):=by
       obtain ⟨fl,h1,_⟩:=hTj.out
       have:=h1.lt
       show _<_
       omega
      have HBJ:=Hd hbj
      clear g0 g1 g2 g3 hqi hX hBk hbj hTj hbw1 hAEJ hr ht hj hjL hjn hW1 tX
      go_wp2_with fail
      rw[<-HW1.out]
      rw[hgx]at tX1
      refine (HSX.out W1 _ _ _ _ r HXQ.out HTT.out).mono ?_
      rintro e V ⟨rfl,bb⟩
      replace HXQ:=Hd (HXQ.out.to bb)
      replace hTj2:=Hd (hTj2.out.to bb)
      replace HBW:=Hxb HBW bb
      have TX:=Hd (tX1.to bb)
      clear bb k0 k1 k2 k3 f0 f1 f2 f3 HW1 tX1 HSX
      by_cases t0:t=0
      .have hTN:Hid (RowT V w.heap.size L (midF Sk ak (j+1))):=hTj2.out.congr fun i _=>by
        have h0:ak j=0:=by rw[<-HAEJ.out,(sgnQ_zero (r:=r)).1 (HTT.out.trans t0),Rat.mul_zero]
        unfold midF
        by_cases hij:i<j
        .rw[if_pos hij,if_pos (by omega)]
        .rw[if_neg hij]
         by_cases hij2:i<j+1
         .obtain rfl:i=j:=by omega
          rw[if_pos hij2,h0,Rat.add_zero]
         .rw[if_neg hij2]
       subst t0
       clear hTj2 TX HXQ
       go_wp2
       go_roundw
       case rel=>exact ⟨j+1,by simp,HJL.out,hTN,HBW.out⟩
       case measure=>have:=HJL.out;simp[intOf];omega
      .have t1:(t != 0)=true:=by simpa using t0
       go_wp2_with fail
       obtain ⟨fl,hrow,hfl,hqs⟩:=hTj2.out
       have hqj:=hqs j HJN.out
       rw[show midF Sk ak j j=Sk j from by unfold midF;rw[if_neg (Nat.lt_irrefl _)]]at hqj
       have hjf:j<fl.length:=by rw[hfl];exact HJN.out
       rw[getD_at' hjf]at hqj
       obtain ⟨E,hE⟩:∃E,fl[j]=E:=⟨_,rfl⟩
       have HEC:Hid (∀V:World,Row V w.heap.size fl->V.cell? ⟨w.heap.size,j*4,none⟩=some E.a/\V.cell? ⟨w.heap.size,j*4+1,none⟩=some E.b/\V.cell? ⟨w.heap.size,j*4+2,none⟩=some E.c/\V.cell? ⟨w.heap.size,j*4+3,none⟩=some E.d):=fun V h=>by
        have h1:=h.cells hjf
        rw[hE]at h1
        exact h1
       rw[hE]at hqj
       obtain ⟨e1,e2,e3,e4⟩:=E
       dsimp only at hqj HEC
       have HROW:=Hd hrow
       have HQJ:=Hd hqj
       have HFL:=Hd hfl
       have HQS:=Hd hqs
       have HJF:=Hd hjf
       have hSV:Below w.heap.size w V.drew/\Four V.drew gx (.bool n1) (.slice A1 j1 c1) (.bool n2) (.slice A3 j2 c3):=⟨HBW.out.drew,TX.out.to (Below.refl _ _).drew⟩
       clear hrow hqj hfl hqs hjf hE hTj2
       refine wp_region_planTo (S:=(fun w'=>Below w.heap.size w w'/\Four w' gx (.bool n1) (.slice A1 j1 c1) (.bool n2) (.slice A3 j2 c3))) [(0,true),(1,true),(2,true),(3,true),(4,true),(6,true),(7,true),(8,true),(9,true),(10,true)] #[true,true,true,true,true,false,true,true,true,true,true,false,false,false,false] 5 (by kernel_rfl) (by kernel_rfl) hSV ?_
       clear hSV
       iterate 8 (refine plan_take (v:=?_) rfl (by rfl) ?_ ?_;rotate_left;(focus (intro w' _;go_simp;try with_reducible rfl));simp only[Act.put,List.setIfInBounds_toArray,List.set_cons_zero,List.set_cons_succ])
       refine plan_take (v:=?_) rfl (by rfl) ?_ ?_;rotate_left;(focus (intro w' hS;obtain ⟨f0,f1,f2,f3⟩:=FY.out w' hS.1;go_simp;try with_reducible rfl));simp only[Act.put,List.setIfInBounds_toArray,List.set_cons_zero,List.set_cons_succ]
       refine plan_take rfl (by rfl) (fun w' hS=>load_four (by rfl) hS.2) ?_;simp only[Act.put,List.setIfInBounds_toArray,List.set_cons_zero,List.set_cons_succ]
       intro _
       obtain ⟨W2,hW2⟩:∃W2,W2=V.drew:=⟨_,rfl⟩
       have hbd:Below V.heap.size V W2:=by rw[hW2];exact (Below.refl _ _).drew
       rw[<-hW2]
       replace HROW:=Hd (HROW.out.to hbd)
       replace HQJ:=Hd (HQJ.out.to hbd)
       replace HQS:Hid (∀i,i<L->Qc W2 (fl.getD i E4.z).a (fl.getD i E4.z).b (fl.getD i E4.z).c (fl.getD i E4.z).d (midF Sk ak j i)):=fun i hi=>(HQS.out i hi).to hbd
       replace HXQ:=Hd (HXQ.out.to hbd)
       replace TX:=Hd (TX.out.to hbd)
       replace HBW:=Hxb HBW hbd
       clear hW2 hbd
       obtain ⟨mk,hmk⟩:∃mk:Value->Value->Value->Value->Act,mk=fun v45 v51 v52 v53=>⟨#[.slice (some ⟨b,o,none⟩) Y c',.slice (some ⟨b',o',none⟩) N C,.int .i64 (L:Int),undef,undef,undef,.slice none 0 0,.slice (some ⟨w.heap.size,0,none⟩) L L,.int .i64 (k:Int),.int .i64 (j:Int),.pointer (some ⟨gx,0,none⟩),.int .i64 (L:Int),.slice (some ⟨w.heap.size,0,none⟩) L L,.slice (some ⟨b,o,none⟩) Y c',.int .i64 (Y:Int),.slice (some ⟨b',o',none⟩) N C,.int .i64 (N:Int),.int .i64 (M:Int),.int .i64 (k:Int),.bool true,.int .i64 (k:Int),.slice (some ⟨b,o,none⟩) Y c',.int .i64 (k:Int),.pointer (some ⟨b,o+k*4,none⟩),.agg #[y1,y2,y3,y4],.int .i64 s,.bool false,.slice (some ⟨b',o',none⟩) N C,.int .i64 (k:Int),.pointer (some ⟨b',o'+k,none⟩),.slice (some ⟨b2,o2,none⟩) Lk ck,.int .i64 (Lk:Int),.int .i64 (j:Int),.bool true,.int .i64 (j:Int),.pointer (some ⟨b2,o2+j*4,none⟩),.agg #[.bool n1,.slice A1 j1 c1,.bool n2,.slice A3 j2 c3],.agg #[.bool n1,.slice A1 j1 c1,.bool n2,.slice A3 j2 c3],.int .i64 t,.bool true,.slice (some ⟨w.heap.size,0,none⟩) L L,.int .i64 (j:Int),.slice (some ⟨w.heap.size,0,none⟩) L L,.int .i64 (j:Int),.pointer (some ⟨w.heap.size,j*4,none⟩),v45,.slice (some ⟨b,o,none⟩) Y c',.int .i64 (k:Int),.pointer (some ⟨b,o+k*4,none⟩),.agg #[y1,y2,y3,y4],.agg #[.bool n1,.slice A1 j1 c1,.bool n2,.slice A3 j2 c3],v51,v52,v53,u54,u55,undef],[]⟩:=⟨_,rfl⟩
       refine dag (fun G up dn=>?_)
       have D511:∀(V:World) (m1 m2 m3 m4:Value) (bb:Below W2.heap.size W2 V) (q:Qc V m1 m2 m3 m4 (ak j)),G 3 #[true,true,true,true,true,true,true,true,true,true,true,true,false,false,false] (mk (.agg #[e1,e2,e3,e4]) (.agg #[m1,m2,m3,m4]) u52 u53) V:=by
        intro V m1 m2 m3 m4 bb q
        refine up ?_
        simp only[hmk]
        refine rdy1 (i:=12) (by kernel_rfl) rfl (by rfl) (fun K hK=>?_)
        go_simp
        refine (hADK.out V j _ _ _ _ _ _ _ _ (HQJ.out.to bb) q).mono ?_
        rintro e V1 ⟨s1,s2,s3,s4,rfl,q2,bb1⟩
        have b2:=Bxb bb bb1
        have hB2:=HBW.out.trans (b2.mono HBW.out.size)
        refine hK.out _ _ ⟨hB2,TX.out.to b2⟩ ?_
        clear hK K
        refine rdy1 (i:=13) (by kernel_rfl) rfl (by rfl) (fun K hK=>?_)
        go_simp
        refine hK.out _ _ ⟨hB2,TX.out.to b2⟩ ?_
        clear hK K
        refine rdy1 (i:=14) (by kernel_rfl) rfl (by rfl) (fun K hK=>?_)
        have hr:=HROW.out.to b2
        refine op_storeq (k:=j) (e:=⟨s1,s2,s3,s4⟩) (by rfl) (by rfl) hr HJF.out q2.fq ?_
        have hTX:Four (V1.setRow w.heap.size (flat (fl.set j ⟨s1,s2,s3,s4⟩)).toArray) gx (.bool n1) (.slice A1 j1 c1) (.bool n2) (.slice A3 j2 c3):=(TX.out.to b2).setOther (by have:=HGX.out;omega)
        refine hK.out _ _ ⟨below_setRow hB2 (Nat.le_refl _) _,hTX⟩ ?_
        clear hK K hTX
        have FIN:Hid (RowT (V1.setRow w.heap.size (flat (fl.set j ⟨s1,s2,s3,s4⟩)).toArray) w.heap.size L (midF Sk ak (j+1))/\Below w.heap.size w (V1.setRow w.heap.size (flat (fl.set j ⟨s1,s2,s3,s4⟩)).toArray)) :=
         ⟨RowT.set hr HFL.out (fun i hi=>(HQS.out i hi).to b2) HJN.out q2.fq q2,below_setRow hB2 (Nat.le_refl _) _⟩
        clear hr q q2 bb bb1 b2 hB2 hmk
        refine wpAnyH_done (by kernel_rfl) ?_ _
        show NoPanic _ _ _ _
        clear HMK hADK HQJ HXQ TX HROW HQS HEC FY FK HVE HBW
        go_wp2
        apply_assumption
        go_wp2
        go_roundw
        case rel=>exact ⟨j+1,by simp,HJL.out,FIN.out.1,FIN.out.2⟩
        case measure=>have:=HJL.out;simp[intOf];omega
       have D5:G 4 #[true,true,true,true,true,true,true,true,true,true,true,false,false,false,false] (mk (.agg #[e1,e2,e3,e4]) u51 u52 u53) W2:=by
        refine up ?_
        simp only[hmk]
        refine rdy1 (i:=11) (by kernel_rfl) rfl (by rfl) (fun K hK=>?_)
        go_simp
        refine (HMK.out _ HBW.out _ _ _ _ _ HXQ.out).mono ?_
        rintro e V1 ⟨m1,m2,m3,m4,rfl,q,bb⟩
        rw[HAEJ.out]at q
        refine hK.out _ _ ⟨(HBW.out.trans (bb.mono HBW.out.size)),TX.out.to bb⟩ ?_
        have hD:=D511 V1 m1 m2 m3 m4 bb q
        rw[hmk]at hD
        exact dn hD
       have D11:∀(V:World) (m1 m2 m3 m4:Value) (bb:Below W2.heap.size W2 V) (q:Qc V m1 m2 m3 m4 (ak j)),G 4 #[true,true,true,true,true,false,true,true,true,true,true,true,false,false,false] (mk u45 (.agg #[m1,m2,m3,m4]) u52 u53) V:=by
        intro V m1 m2 m3 m4 bb q
        refine up ?_
        simp only[hmk]
        refine rdy1 (i:=5) (by kernel_rfl) rfl (by rfl) (fun K hK=>?_)
        obtain ⟨k0,k1,k2,k3⟩:=HEC.out _ (HROW.out.to bb)
        go_simp
        refine hK.out _ _ ⟨(HBW.out.trans (bb.mono HBW.out.size)),TX.out.to bb⟩ ?_
        have hD:=D511 V m1 m2 m3 m4 bb q
        rw[hmk]at hD
        exact dn hD
       have D:G 5 #[true,true,true,true,true,false,true,true,true,true,true,false,false,false,false] (mk u45 u51 u52 u53) W2:=by
        refine up ?_
        simp only[hmk]
        refine wpAnyH_ready (rs:=[5,11]) (by kernel_rfl) (by simp) (ready_cons rfl (by rfl) (fun K hK=>?_) (ready_cons rfl (by rfl) (fun K hK=>?_) AllReadyH.nil))
        .obtain ⟨k0,k1,k2,k3⟩:=HEC.out _ HROW.out
         go_simp
         refine hK.out _ _ ⟨HBW.out,TX.out⟩ ?_
         have hD:=D5
         rw[hmk]at hD
         exact dn hD
        .go_simp
         refine (HMK.out _ HBW.out _ _ _ _ _ HXQ.out).mono ?_
         rintro e V1 ⟨m1,m2,m3,m4,rfl,q,bb⟩
         rw[HAEJ.out]at q
         refine hK.out _ _ ⟨(HBW.out.trans (bb.mono HBW.out.size)),TX.out.to bb⟩ ?_
         have hD:=D11 V1 m1 m2 m3 m4 bb q
         rw[hmk]at hD
         exact dn hD
       have hD:=D
       rw[hmk]at hD
       exact hD
     .obtain rfl:j=Lk:=by omega
      have HTJ:Hid (RowT wr w.heap.size L (S (k+1))):=hTj.out.congr fun i hi=>by
       rw[hNE.out]
       unfold midF
       by_cases hij:i<j
       .rw[if_pos hij]
       .rw[if_neg hij,hAZ.out i (by omega),Rat.add_zero]
      have HBJ:=Hd hbj
      clear hTj hbj hjL hj
      go_wp2
      go_roundw
      case rel=>exact ⟨k+1,by simp,HLT.out,HTJ,HBJ.out⟩
      case measure=>have:=HLT.out;simp[intOf];omega
  .obtain rfl:k=M:=by omega
   have HT:=hT
   have HB:=Hd hb
   clear hT hb hlt hk
   go_wp2
   go_ret
   exact HT.out.vr HLL.out HB.out
end Go.Proofs.YtglhdielkkhefaaGreat
