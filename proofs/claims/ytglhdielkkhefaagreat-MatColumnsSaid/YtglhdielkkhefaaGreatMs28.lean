/- Parts: 1. -/
import Derived.Test.YtglhdielkkhefaaGreatMs26
import Derived.Test.YtglhdielkkhefaaGreatMs27
set_option linter.unusedVariables false
set_option linter.unusedSimpArgs false
set_option maxRecDepth 100000
set_option maxHeartbeats 40000000

namespace Go.Proofs.YtglhdielkkhefaaGreat
open Go.RowKit Go.Shelf
theorem mcols_long {w:World}{A B:MA}{X:VA}(v1:MIn w A)(v2:MIn w B)(v3:VIn w X)(hl:[A,B].any lngM=true) :
  Calls Tryz.prog 8 #[.slice A.P A.N A.C,.slice B.P B.N B.C,.slice X.A X.es.length X.c] w fun e w'=>e=.returned (.bool true)/\Below w.heap.size w w':=by
 obtain ⟨W0,hW0⟩:∃W0,W0=w.alloc (.cells #[.slice A.P A.N A.C,.slice B.P B.N B.C] 22):=⟨_,rfl⟩
 have hbw:Below w.heap.size w W0:=by rw[hW0];exact (Below.refl _ _).alloc (Nat.le_refl _) _
 have hp:Hp W0 w.heap.size (.cells #[.slice A.P A.N A.C,.slice B.P B.N B.C] 22 (0,0)):=by rw[hW0];exact Hp.new _ _ _
 have HL:=Hd (long4_o (some ⟨w.heap.size,0,none⟩) [A,B] 2 W0 (fun i hi=>by
  match i,hi with
  | 0,_=>exact ⟨_,_,rfl,hp.lt,(hp.cellAt _).trans rfl⟩
  | 1,_=>exact ⟨_,_,rfl,hp.lt,(hp.cellAt _).trans rfl⟩) (fun v hv=>by
  simp only[List.mem_cons,List.not_mem_nil,or_false]at hv
  rcases hv with rfl|rfl
  .exact v1.to hbw
  .exact v2.to hbw) (by simp) (r:=true) (by simpa using hl))
 have HW0:=Hd hW0
 have HB:=Hd hbw
 clear hW0 hbw hp hl v1 v2 v3
 go_enter Tryz.func8,Tryz.ntmps8
 go_wp2_with fail
 rw[<-HW0.out]
 refine HL.out.mono ?_
 rintro e V ⟨rfl,bb⟩
 clear HL HW0
 replace HB:=Hxb HB bb
 clear bb
 go_wp2_with fail
 refine (malive_any _).mono ?_
 rintro e V ⟨rfl,bb⟩
 replace HB:=Hxb HB bb
 clear bb
 go_wp2
 go_ret
 exact ⟨rfl,HB.out⟩
theorem mcols_long2 {w:World}{A B:MA}{X:VA}(v1:MIn w A)(v2:MIn w B)(v3:VIn w X)(hl:[A,B].any lngM=false)(hm:lngV X.es=true) :
  Calls Tryz.prog 8 #[.slice A.P A.N A.C,.slice B.P B.N B.C,.slice X.A X.es.length X.c] w fun e w'=>e=.returned (.bool true)/\Below w.heap.size w w':=by
 obtain ⟨W0,hW0⟩:∃W0,W0=w.alloc (.cells #[.slice A.P A.N A.C,.slice B.P B.N B.C] 22):=⟨_,rfl⟩
 have hbw:Below w.heap.size w W0:=by rw[hW0];exact (Below.refl _ _).alloc (Nat.le_refl _) _
 have hp:Hp W0 w.heap.size (.cells #[.slice A.P A.N A.C,.slice B.P B.N B.C] 22 (0,0)):=by rw[hW0];exact Hp.new _ _ _
 have HL:=Hd (long4_o (some ⟨w.heap.size,0,none⟩) [A,B] 2 W0 (fun i hi=>by
  match i,hi with
  | 0,_=>exact ⟨_,_,rfl,hp.lt,(hp.cellAt _).trans rfl⟩
  | 1,_=>exact ⟨_,_,rfl,hp.lt,(hp.cellAt _).trans rfl⟩) (fun v hv=>by
  simp only[List.mem_cons,List.not_mem_nil,or_false]at hv
  rcases hv with rfl|rfl
  .exact v1.to hbw
  .exact v2.to hbw) (by simp) (r:=false) (by simpa using hl))
 have HW0:=Hd hW0
 have HB:=Hd hbw
 replace v3:=v3.to hbw
 clear hW0 hbw hp hl v1 v2
 go_enter Tryz.func8,Tryz.ntmps8
 go_wp2_with fail
 rw[<-HW0.out]
 refine HL.out.mono ?_
 rintro e V ⟨rfl,bb⟩
 clear HL HW0
 replace v3:=v3.to bb
 replace HB:=Hxb HB bb
 clear bb
 obtain ⟨W1,hW1⟩:∃W1,W1=V.alloc (.cells #[.slice X.A X.es.length X.c] 38):=⟨_,rfl⟩
 have hb1:Below V.heap.size V W1:=by rw[hW1];exact (Below.refl _ _).alloc (Nat.le_refl _) _
 have hp1:Hp W1 V.heap.size (.cells #[.slice X.A X.es.length X.c] 38 (0,0)):=by rw[hW1];exact Hp.new _ _ _
 have HL:=Hd (vlong_any V.heap.size [X] 1 W1 hp1.lt (fun i hi=>by
  match i,hi with
  | 0,_=>exact (hp1.cellAt _).trans rfl) (fun v hv=>by
  obtain rfl:v=X:=by simpa using hv
  exact v3.to hb1) (by simp) (r:=true) (by simpa using hm))
 have HW1:=Hd hW1
 replace HB:=Hxb HB hb1
 clear hW1 hb1 hp1 hm v3
 go_wp2_with fail
 rw[<-HW1.out]
 refine HL.out.mono ?_
 rintro e V2 ⟨rfl,bb⟩
 clear HL HW1
 replace HB:=Hxb HB bb
 clear bb
 go_wp2_with fail
 refine (malive_any _).mono ?_
 rintro e V ⟨rfl,bb⟩
 replace HB:=Hxb HB bb
 clear bb
 go_wp2
 go_ret
 exact ⟨rfl,HB.out⟩
theorem mcols_core {w:World}{A B:MA}{X:VA}(v1:MIn w A)(v2:MIn w B)(v3:VIn w X){a b:Nat->List Rat}{x:List Rat}(hl:[A,B].any lngM=false)(hm:lngV X.es=false)(xa:Mx w A.P A.N A.C a 6 8)(xb:Mx w B.P B.N B.C b 6 8)(vx:Vy w X.A X.c x 6 20)(na:A.N<=8)(nb:B.N<=8)(ex:X.es.length=x.length) :
  Calls Tryz.prog 8 #[.slice A.P A.N A.C,.slice B.P B.N B.C,.slice X.A X.es.length X.c] w fun e w'=>e=.returned (.bool true)/\Below w.heap.size w w':=by
 obtain ⟨W0,hW0⟩:∃W0,W0=w.alloc (.cells #[.slice A.P A.N A.C,.slice B.P B.N B.C] 22):=⟨_,rfl⟩
 have hbw:Below w.heap.size w W0:=by rw[hW0];exact (Below.refl _ _).alloc (Nat.le_refl _) _
 have hp:Hp W0 w.heap.size (.cells #[.slice A.P A.N A.C,.slice B.P B.N B.C] 22 (0,0)):=by rw[hW0];exact Hp.new _ _ _
 have HL:=Hd (long4_o (some ⟨w.heap.size,0,none⟩) [A,B] 2 W0 (fun i hi=>by
  match i,hi with
  | 0,_=>exact ⟨_,_,rfl,hp.lt,(hp.cellAt _).trans rfl⟩
  | 1,_=>exact ⟨_,_,rfl,hp.lt,(hp.cellAt _).trans rfl⟩) (fun v hv=>by
  simp only[List.mem_cons,List.not_mem_nil,or_false]at hv
  rcases hv with rfl|rfl
  .exact v1.to hbw
  .exact v2.to hbw) (by simp) (r:=false) (by simpa using hl))
 have HW0:=Hd hW0
 have HB:=Hd hbw
 replace xa:=xa.to hbw
 replace xb:=xb.to hbw
 replace vx:=vx.to hbw
 replace v3:=v3.to hbw
 rw[ex]
 have EX:=Hd ex
 obtain ⟨PA,NA,CA,_⟩:=A
 obtain ⟨PB,NB,CB,_⟩:=B
 dsimp only at xa xb na nb HL HW0 ⊢
 have hca:colsN a NA<=8:=colsN_le xa.mv.l
 have hcb:colsN b NB<=8:=colsN_le xb.mv.l
 have HLX:=Hd vx.l
 have HNA:=Hd na
 have HNB:=Hd nb
 have HCA:=Hd hca
 have HCB:=Hd hcb
 clear hW0 hbw hp hl v1 v2 na nb hca hcb ex
 go_enter Tryz.func8,Tryz.ntmps8
 go_wp2_with fail
 rw[<-HW0.out]
 refine HL.out.mono ?_
 rintro e V ⟨rfl,bb⟩
 clear HL HW0
 replace xa:=xa.to bb
 replace xb:=xb.to bb
 replace vx:=vx.to bb
 replace v3:=v3.to bb
 replace HB:=Hxb HB bb
 clear bb
 obtain ⟨W1,hW1⟩:∃W1,W1=V.alloc (.cells #[.slice X.A X.es.length X.c] 38):=⟨_,rfl⟩
 have hb1:Below V.heap.size V W1:=by rw[hW1];exact (Below.refl _ _).alloc (Nat.le_refl _) _
 have hp1:Hp W1 V.heap.size (.cells #[.slice X.A X.es.length X.c] 38 (0,0)):=by rw[hW1];exact Hp.new _ _ _
 have HL:=Hd (vlong_any V.heap.size [X] 1 W1 hp1.lt (fun i hi=>by
  match i,hi with
  | 0,_=>exact (hp1.cellAt _).trans rfl) (fun v hv=>by
  obtain rfl:v=X:=by simpa using hv
  exact v3.to hb1) (by simp) (r:=false) (by simpa using hm))
 rw[EX.out]at hW1
 have HW1:=Hd hW1
 clear v3
 replace xa:=xa.to hb1
 replace xb:=xb.to hb1
 replace vx:=vx.to hb1
 replace HB:=Hxb HB hb1
 clear hW1 hb1 hp1 hm EX
 obtain ⟨AX,cX,esX⟩:=X
 dsimp only at vx HL HW1 ⊢
 go_wp2_with fail
 rw[<-HW1.out]
 refine HL.out.mono ?_
 rintro e U ⟨rfl,bb⟩
 clear HL HW1
 replace xa:=xa.to bb
 replace xb:=xb.to bb
 replace vx:=vx.to bb
 replace HB:=Hxb HB bb
 clear bb
 have HBU:=Hd HB.out
 have XA:=Hd xa
 have XB:=Hd xb
 have VX:=Hd vx
 clear xa xb vx HB
 go_wp2
 go_loopw [7,8] (fun v i wr=>∃(k:Nat) (A1:Option Addr) (c1:Nat),v=.slice A1 k c1/\i=.int .i64 k/\k<=x.length/\Hid (TotS (Vk (colR x) 6) wr (.slice A1 k c1) k U.heap.size)/\Below U.heap.size U wr) (fun _ i _=>x.length-(intOf i).toNat)
 case atStart=>exact ⟨0,none,0,rfl,rfl,Nat.zero_le _,.inl ⟨rfl,rfl⟩,Below.refl _ _⟩
 case round =>
  obtain ⟨k,A1,c1,rfl,rfl,hk,hT,hb⟩:=hrel
  by_cases hlt:k<x.length
  .have hk1:(0:Int)<=(k:Int):=by omega
   have hk2:(k:Int)<(x.length:Int):=by omega
   have hk3:(k:Int)+1<=9223372036854775807:=by have:=HLX.out;omega
   obtain ⟨es,hv⟩:=VX.out.vi
   have hkl:k<es.length:=by rw[hv.len];exact hlt
   obtain ⟨b0,o0,e0,-⟩:=hv.row k hkl
   subst e0
   obtain ⟨es',hv'⟩:=(hv.to hb).part hlt
   have hcap:=hv.cap
   have hk4:(k:Int)+1<=(cX:Int):=by omega
   have bb2:Below wr.heap.size wr (wr.alloc (.cells #[.slice (some ⟨b0,o0+k*4,none⟩) 1 (cX-k)] 38)):=(Below.refl _ _).alloc (Nat.le_refl _) _
   have c5:=(Hp.new wr #[.slice (some ⟨b0,o0+k*4,none⟩) 1 (cX-k)] 38).one
   have hB2:=Bxb hb bb2
   obtain ⟨v',X',hrun,hT2,hbel⟩:=sapp (Vk.kept (colR x) 6) (hT.out.mv (Vk.kept (colR x) 6) bb2) hB2.size (by have:=HLX.out;omega) ⟨_,_,_,rfl⟩ ⟨_,_,es',rfl,hv'.to bb2⟩ (a:=⟨wr.heap.size,0,none⟩) (c:=1) c5 22
   obtain ⟨A3,c3,rfl⟩:=hT2.sl
   have HRUN:=Hd hrun
   have HE:Hid (TotS (Vk (colR x) 6) X' (.slice A3 (k+1) c3) (k+1) U.heap.size/\Below U.heap.size U X'):=⟨hT2,hB2.trans hbel⟩
   have HLT:=Hd hlt
   clear bb2 c5 hB2 hbel hrun hT2 hT hb hv hv' hkl hcap hk hlt
   go_wp2_with (at_builtin;refine wpList_append_run rfl (.tmp 33) (.tmp 39) 22 rfl (by rfl) (by rfl) HRUN.out ?_;clear HRUN)
   go_roundw
   case rel=>exact ⟨k+1,A3,c3,rfl,by simp,HLT.out,HE.out.1,HE.out.2⟩
   case measure=>have:=HLT.out;simp[intOf];omega
  .obtain rfl:k=x.length:=by omega
   have xa:=XA.out.to hb
   have xb:=XB.out.to hb
   have vx:=VX.out.to hb
   have xc:Mx wr A1 x.length c1 (colR x) 6 1:=⟨hT.out.mi,colR_mv vx.q (by decide) (Nat.le_refl _)⟩
   have HB:=Hxb HBU hb
   clear hT hb hlt hk XA XB VX HBU
   go_wp2_with fail
   refine (mul_x xa xc 20 (by have:=HNA.out;have:=HNB.out;have:=HCA.out;have:=HCB.out;have:=HLX.out;omega) (by decide) (by decide) (by have:=HNA.out;have:=HNB.out;have:=HCA.out;have:=HCB.out;have:=HLX.out;omega) (by decide) (by decide) (by decide) (by decide)).mono ?_
   rintro e V ⟨PP,CP,rfl,yp,bb⟩
   clear xc
   replace xa:=xa.to bb
   replace xb:=xb.to bb
   replace vx:=vx.to bb
   replace HB:=Hxb HB bb
   clear bb
   go_wp2_with fail
   refine (mulVec_x xa vx 8 8 (by decide) (by decide) (by have:=HNA.out;have:=HNB.out;have:=HCA.out;have:=HCB.out;have:=HLX.out;omega) (by decide) (by decide) (by decide) (by decide) (by have:=HNA.out;have:=HNB.out;have:=HCA.out;have:=HCB.out;have:=HLX.out;omega)).mono ?_
   rintro e V ⟨AQ,cQ,uq,rfl,hq,yq,bb⟩
   clear vx
   replace xa:=xa.to bb
   replace xb:=xb.to bb
   replace yp:=yp.to bb
   replace HB:=Hxb HB bb
   clear bb
   have hql:uq.length=NA:=by rw[hq.out,tab_length]
   rw[hql]
   have HQL:=Hd hql
   have XA:=Hd xa
   have XB:=Hd xb
   have YP:=Hd yp
   have YQ:=Hd yq
   have HBU:=Hd HB.out
   clear xa xb yp yq HB hql
   go_wp2
   go_loopw [11] (fun i wr=>∃k:Nat,i=.int .i64 k/\k<=NA/\Below V.heap.size V wr) (fun i _=>NA-(intOf i).toNat)
   case atStart=>exact ⟨0,rfl,Nat.zero_le _,Below.refl _ _⟩
   case round =>
    obtain ⟨k,rfl,hk,hb⟩:=hrel
    by_cases hlt:k<NA
    .have hk1:(0:Int)<=(k:Int):=by omega
     have hk2:(k:Int)<(NA:Int):=by omega
     have hk3:(k:Int)+1<=9223372036854775807:=by have:=HNA.out;omega
     obtain ⟨b1,o1,A1,c1,es1,e1,hb1,hc1,hv1⟩:=YP.out.mi.row k hlt
     subst e1
     obtain ⟨r,hr⟩:∃r,mulR a (colR x) x.length k=r:=⟨_,rfl⟩
     have vr:Vy V A1 c1 r 261 1:=⟨⟨es1,by rw[<-hr];exact hv1⟩,by rw[<-hr];exact YP.out.mv.q k hlt,by rw[<-hr];exact YP.out.mv.l k hlt⟩
     rw[hr]at hc1
     obtain ⟨es2,hv2⟩:=YQ.out.vi
     have hkl:k<es2.length:=by rw[hv2.len,HQL.out];exact hlt
     obtain ⟨b2,o2,e2,-⟩:=hv2.row k hkl
     subst e2
     have hcap:=hv2.cap
     have hk4:(k:Int)+1<=(cQ:Int):=by omega
     have hkq:k<uq.length:=by rw[HQL.out];exact hlt
     obtain ⟨es3,hv3⟩:=hv2.part hkq
     have vq:Vy V (some ⟨b2,o2+k*4,none⟩) (cQ-k) [uq.getD k 0] 105 1:=⟨⟨es3,hv3⟩,fun i=>by
      match i with
      | 0=>exact YQ.out.q k
      | i+1=>exact Qm.zero (by decide),Nat.le_refl _⟩
     have hE:decide (lexQ r [uq.getD k 0]=0)=true:=by
      rw[<-hr,hq.out,tab_getD _ hlt]
      exact col_eq a x k
     have F1:Hid (∀X,Below V.heap.size V X->X.cell? ⟨b1,o1+k,none⟩=some (.slice A1 r.length c1)):=fun X hX=>(hX.cell (p:=⟨b1,_,none⟩) hb1).trans hc1
     have HC:=Hd (fun (X:World) (hX:Below V.heap.size V X)=>vequal_x (vr.to hX) (vq.to hX) (by decide) (by decide) (by decide) (by decide) (by decide) hE)
     have HLT:=Hd hlt
     have HBR:=Hd hb
     clear hk hlt hb hb1 hc1 hv1 hr vr hv2 hkl hcap hkq hv3 vq hE
     go_wp2_with fail
     refine wp_region_plan (S:=fun w'=>Below V.heap.size V w') [(0,true),(1,true),(2,true),(3,true),(4,true),(5,true),(6,true),(7,true),(8,true),(9,false),(10,true)] (by kernel_rfl) (by kernel_rfl) (HBR.out).drew ?_
     have hb:=(HBR.out).drew
     iterate 3 (refine plan_take (v:=?_) rfl (by rfl) ?_ ?_;rotate_left;(focus (intro w' _;go_simp;try with_reducible rfl));simp only[Act.put,List.setIfInBounds_toArray,List.set_cons_zero,List.set_cons_succ])
     refine plan_take (v:=?_) rfl (by rfl) ?_ ?_;rotate_left;(focus (intro w' hS;have k1:=F1.out w' hS;go_simp;try with_reducible rfl));simp only[Act.put,List.setIfInBounds_toArray,List.set_cons_zero,List.set_cons_succ]
     iterate 4 (refine plan_take (v:=?_) rfl (by rfl) ?_ ?_;rotate_left;(focus (intro w' _;go_simp;try with_reducible rfl));simp only[Act.put,List.setIfInBounds_toArray,List.set_cons_zero,List.set_cons_succ])
     refine plan_take (v:=?_) rfl (by rfl) ?_ ?_;rotate_left;(focus (intro w' hS;have e1:IntKind.i64.wrap ((k:Int)+1)=((k+1:Nat):Int):=(by rw[IntKind.wrap_i64];omega);have e2:¬cQ=k:=(by omega);have e3:(0:Int)<=(k:Int)+1:=(by omega);go_simp;try with_reducible rfl));simp only[Act.put,List.setIfInBounds_toArray,List.set_cons_zero,List.set_cons_succ]
     refine plan_call rfl (by rfl) (fun K hK=>?_)
     go_simp
     refine (HC.out _ hb).mono ?_
     rintro e V ⟨rfl,bb⟩
     replace hb:=Bxb hb bb
     refine hK.out _ _ hb ?_
     clear hK K bb
     refine plan_take (v:=?_) rfl (by rfl) ?_ ?_;rotate_left;(focus (intro w' _;go_simp;try with_reducible rfl));simp only[Act.put,List.setIfInBounds_toArray,List.set_cons_zero,List.set_cons_succ]
     refine plan_done ?_
     have HE:=Hd hb
     clear hb F1 HC HBR
     go_wp2
     go_roundw
     case rel=>exact ⟨k+1,by simp,HLT.out,HE.out⟩
     case measure=>have:=HLT.out;simp[intOf];omega
    .obtain rfl:k=NA:=by omega
     have xa:=XA.out.to hb
     have xb:=XB.out.to hb
     have HB:=Hxb HBU hb
     obtain ⟨n,hn⟩:∃n,colsN a k=n:=⟨_,rfl⟩
     have hcc:=cols_x xa (by have:=HNA.out;omega) (by decide)
     rw[hn]at hcc
     have HN:=Hd hn
     have HN8:Hid (n<=8):=by rw[<-hn];exact HCA.out
     have HCC:=Hd hcc
     clear hb hlt hk XA XB HBU YP YQ hq HQL hcc hn
     go_wp2_with fail
     refine HCC.out.mono ?_
     rintro e V2 ⟨rfl,bb⟩
     replace xa:=xa.to bb
     replace xb:=xb.to bb
     have HBU:=Hxb HB bb
     have XA:=Hd xa
     have XB:=Hd xb
     clear HCC bb HB xa xb
     go_wp2
     go_loopw [13] (fun i wr=>∃j:Nat,i=.int .i64 j/\j<=n/\Below V2.heap.size V2 wr) (fun i _=>n-(intOf i).toNat)
     case atStart=>exact ⟨0,rfl,Nat.zero_le _,Below.refl _ _⟩
     case round =>
      obtain ⟨j,rfl,hj,hb⟩:=hrel
      by_cases hlt:j<n
      .have hk1:(0:Int)<=(j:Int):=by omega
       have hk2:(j:Int)<(n:Int):=by omega
       have hk3:(j:Int)+1<=9223372036854775807:=by have:=HN8.out;omega
       have xa:=XA.out.to hb
       have HB:=Hd hb
       have HLT:=Hd hlt
       have HU:=Hd (unit_x (w:=wr) (n:=n) (k:=j) (L:=20) (by have:=HN8.out;omega) hlt (by have:=HN8.out;omega))
       clear hb hj hlt
       go_wp2_with fail
       refine HU.out.mono ?_
       rintro e V3 ⟨A4,c4,uu,rfl,hu,yu,bb⟩
       replace xa:=xa.to bb
       replace HB:=Hxb HB bb
       clear bb HU
       go_wp2_with fail
       refine (mulVec_x xa yu 8 8 (by decide) (by decide) (by have:=HNA.out;omega) (by decide) (by decide) (by decide) (by decide) HNA.out).mono ?_
       rintro e V4 ⟨A5,c5,uc,rfl,hc,yc,bb⟩
       replace xa:=xa.to bb
       replace HB:=Hxb HB bb
       have hcl:uc.length=k:=by rw[hc.out,tab_length]
       rw[hcl]
       have HCL:=Hd hcl
       have XA4:=Hd xa
       have YC:=Hd yc
       have HB4:=Hd HB.out
       clear bb hcl xa yc yu HB
       go_wp2
       go_loopw [15] (fun i wr=>∃i0:Nat,i=.int .i64 i0/\i0<=k/\Below V4.heap.size V4 wr) (fun i _=>k-(intOf i).toNat)
       case atStart=>exact ⟨0,rfl,Nat.zero_le _,Below.refl _ _⟩
       case round =>
        obtain ⟨i,rfl,hi,hb⟩:=hrel
        by_cases hit:i<k
        .have hi1:(0:Int)<=(i:Int):=by omega
         have hi2:(i:Int)<(k:Int):=by omega
         have hi3:(i:Int)+1<=9223372036854775807:=by have:=HNA.out;omega
         obtain ⟨es2,hv2⟩:=YC.out.vi
         have hkl:i<es2.length:=by rw[hv2.len,HCL.out];exact hit
         obtain ⟨b2,o2,e2,hb2,g0,g1,g2,g3⟩:=hv2.row i hkl
         subst e2
         have qk:=hv2.el i
         rw[getD_at' hkl]at qk
         generalize es2[i]=E at g0 g1 g2 g3 qk
         obtain ⟨x1,x2,x3,x4⟩:=E
         dsimp only at g0 g1 g2 g3 qk
         have F:Hid (∀X,Below V4.heap.size V4 X->X.cell? ⟨b2,o2+i*4,none⟩=some x1/\X.cell? ⟨b2,o2+i*4+1,none⟩=some x2/\X.cell? ⟨b2,o2+i*4+2,none⟩=some x3/\X.cell? ⟨b2,o2+i*4+3,none⟩=some x4):=fun X hX =>
          ⟨(hX.cell (p:=⟨b2,_,none⟩) hb2).trans g0,(hX.cell (p:=⟨b2,_,none⟩) hb2).trans g1,(hX.cell (p:=⟨b2,_,none⟩) hb2).trans g2,(hX.cell (p:=⟨b2,_,none⟩) hb2).trans g3⟩
         have hval:uc.getD i 0=(a i).getD j 0:=by
          rw[hc.out,tab_getD _ hit,hu.out]
          exact dot_unitR (a i) (by have h:=colsN_ge a hit;rw[HN.out]at h;exact h) (by have:=HN8.out;omega) HLT.out
         rw[hval]at qk
         have QK:=Hd qk
         have HA:=Hd (fun (X:World) (hX:Below V4.heap.size V4 X)=>at_x (j:=j) (XA4.out.to hX) (by decide) (by decide) (by decide) hit)
         have HIT:=Hd hit
         have HBR:=Hd hb
         clear hi hit hb hb2 g0 g1 g2 g3 qk hval hkl hv2
         go_wp2_with fail
         refine wp_region_plan (S:=fun w'=>Below V4.heap.size V4 w') [(0,true),(1,true),(2,true),(3,true),(4,true),(5,true),(6,true),(7,false),(8,false),(9,true)] (by kernel_rfl) (by kernel_rfl) (HBR.out).drew ?_
         have hb:=(HBR.out).drew
         iterate 3 (refine plan_take (v:=?_) rfl (by rfl) ?_ ?_;rotate_left;(focus (intro w' _;go_simp;try with_reducible rfl));simp only[Act.put,List.setIfInBounds_toArray,List.set_cons_zero,List.set_cons_succ])
         refine plan_take (v:=?_) rfl (by rfl) ?_ ?_;rotate_left;(focus (intro w' hS;obtain ⟨f0,f1,f2,f3⟩:=F.out w' hS;go_simp;try with_reducible rfl));simp only[Act.put,List.setIfInBounds_toArray,List.set_cons_zero,List.set_cons_succ]
         iterate 3 (refine plan_take (v:=?_) rfl (by rfl) ?_ ?_;rotate_left;(focus (intro w' _;go_simp;try with_reducible rfl));simp only[Act.put,List.setIfInBounds_toArray,List.set_cons_zero,List.set_cons_succ])
         refine plan_call rfl (by rfl) (fun K hK=>?_)
         go_simp
         refine (HA.out _ hb).mono ?_
         rintro e V ⟨z1,z2,z3,z4,r,rfl,hr,qr,bb⟩
         replace hb:=Bxb hb bb
         refine hK.out _ _ hb ?_
         clear hK K bb
         refine plan_call rfl (by rfl) (fun K hK=>?_)
         go_simp
         refine (equal_q (QK.out.to hb) qr (by decide) (by decide) (by decide) (v:=true) (decide_eq_true hr.out.symm)).mono ?_
         rintro e V ⟨rfl,bb⟩
         replace hb:=Bxb hb bb
         refine hK.out _ _ hb ?_
         clear hK K bb
         refine plan_take (v:=?_) rfl (by rfl) ?_ ?_;rotate_left;(focus (intro w' _;go_simp;try with_reducible rfl));simp only[Act.put,List.setIfInBounds_toArray,List.set_cons_zero,List.set_cons_succ]
         refine plan_done ?_
         have HE:=Hd hb
         clear hb F HA HBR
         go_wp2
         go_roundw
         case rel=>exact ⟨i+1,by simp,HIT.out,HE.out⟩
         case measure=>have:=HIT.out;simp[intOf];omega
        .obtain rfl:i=k:=by omega
         have HE:=Hxb HB4 hb
         clear hb hit hi HB4 XA4 YC hc hu HCL
         go_wp2
         go_roundw
         case rel=>exact ⟨j+1,by simp,HLT.out,HE.out⟩
         case measure=>have:=HLT.out;simp[intOf];omega
      .obtain rfl:j=n:=by omega
       have xa:=XA.out.to hb
       have xb:=XB.out.to hb
       have HB:=Hxb HBU hb
       have hcb:=HCB.out
       clear hb hlt hj XA XB HBU
       go_wp2_with fail
       refine (cat_x xa xb 16 (by decide) (by decide) (by have:=HNA.out;omega) (by have:=HNB.out;omega) (by decide) (by decide) (by decide)).mono ?_
       rintro e V5 ⟨PS,S,CS,rfl,HS,ys,bb⟩
       have hrc:colsN (catR a k b NB) S=if S=0 then 0 else j+colsN b NB:=by rw[HS.out,cat_cols,HN.out]
       have hs16:S<=8:=by have:=HS.out;have:=HNA.out;have:=HNB.out;omega
       obtain ⟨cb,hcb0⟩:∃cb,colsN b NB=cb:=⟨_,rfl⟩
       have HS8:=Hd hs16
       have HRC:=Hd hrc
       have HCB0:=Hd hcb0
       have HCB8:Hid (cb<=8):=by rw[<-hcb0];exact hcb
       replace xa:=xa.to bb
       replace xb:=xb.to bb
       replace HB:=Hxb HB bb
       clear bb hcb hrc hs16 hcb0
       go_wp2_with fail
       refine (resize_x ys (by decide) (by decide) (by have:=HS8.out;omega) (by decide) (by have:=HS8.out;omega) (by have:=HN8.out;omega)).mono ?_
       rintro e V6 ⟨PR,CR,rfl,yr,bb⟩
       replace xa:=xa.to bb
       replace xb:=xb.to bb
       replace ys:=ys.to bb
       replace HB:=Hxb HB bb
       clear bb
       go_wp2_with fail
       refine (equal_x yr xa (by decide) (by decide) (by have:=HS8.out;omega) (by have:=HNA.out;omega) (by have:=HN8.out;omega) (by decide) (by decide) (by rw[HS.out];exact cat_left a b k NB j HN.out (by have:=HN8.out;omega))).mono ?_
       rintro e V7 ⟨rfl,bb⟩
       replace xb:=xb.to bb
       replace ys:=ys.to bb
       replace HB:=Hxb HB bb
       clear bb xa yr
       go_wp2_with fail
       have hc1:=cols_x ys (by have:=HS8.out;omega) (by decide)
       rw[HRC.out,HCB0.out]at hc1
       have hc2:=fun V hV=>cols_x (xb.to (V:=V) hV) (by have:=HNB.out;omega) (by decide)
       rw[HCB0.out]at hc2
       have HC1:=Hd hc1
       have HC2:=Hd hc2
       clear hc1 hc2 ys xb
       have hj8:=HN8.out
       have hc8:=HCB8.out
       by_cases hS:S=0
       .rw[if_pos hS]at HC1
        have hmin:min (S:Int) 1=0:=by omega
        refine HC1.out.mono ?_
        rintro e V8 ⟨rfl,b8⟩
        have B8:=Hd b8
        have HE:=Hxb HB b8
        clear b8 HB HC1 hj8 hc8 hS
        go_wp2_with fail
        refine (HC2.out _ B8.out).mono ?_
        rintro e V9 ⟨rfl,bb⟩
        have HB:=Hxb HE bb
        clear bb HE HC2 B8
        go_wp2_with fail
        refine (malive_any _).mono ?_
        rintro e V ⟨rfl,bb⟩
        replace HB:=Hxb HB bb
        clear bb
        go_wp2
        go_ret
        exact ⟨rfl,HB.out⟩
       .rw[if_neg hS]at HC1
        have hS1:¬(S:Int)<1:=by omega
        have hmin:min (S:Int) 1=1:=by omega
        have hb1:(j:Int)<=8:=by omega
        have hb2:(cb:Int)<=8:=by omega
        have hb3:(0:Int)<=j:=by omega
        have hb4:(0:Int)<=cb:=by omega
        refine HC1.out.mono ?_
        rintro e V8 ⟨rfl,b8⟩
        have B8:=Hd b8
        have HE:=Hxb HB b8
        clear b8 HB HC1 hj8 hc8 hS
        go_wp2_with fail
        refine (HC2.out _ B8.out).mono ?_
        rintro e V9 ⟨rfl,bb⟩
        have HB:=Hxb HE bb
        clear bb HE HC2 B8
        go_wp2_with fail
        refine (malive_any _).mono ?_
        rintro e V ⟨rfl,bb⟩
        replace HB:=Hxb HB bb
        clear bb
        go_wp2
        go_ret
        exact ⟨rfl,HB.out⟩
theorem mcols_any {w:World}{A B:MA}{X:VA}(v1:MIn w A)(v2:MIn w B)(v3:VIn w X) :
  Calls Tryz.prog 8 #[.slice A.P A.N A.C,.slice B.P B.N B.C,.slice X.A X.es.length X.c] w fun e w'=>e=.returned (.bool true)/\Below w.heap.size w w':=by
 cases hl:[A,B].any lngM with
 | true=>exact mcols_long v1 v2 v3 hl
 | false =>
  cases hm:lngV X.es with
  | true=>exact mcols_long2 v1 v2 v3 hl hm
  | false =>
   have hl':=hl
   simp only[List.any_cons,List.any_nil,Bool.or_false,Bool.or_eq_false_iff]at hl'
   obtain ⟨a,ha,na,la⟩:=v1.mi hl'.1
   obtain ⟨b,hb,nb,lb⟩:=v2.mi hl'.2
   obtain ⟨x,hx,lx⟩:=v3.vi hm
   have q:∀{M:MA} {rs:Nat->List Rat},Mi w M.P M.N M.C rs 6->∀k,k<M.N->∀j,Qm 6 ((rs k).getD j 0):=fun h k hk j=>by
    obtain ⟨b,o,A,c,es,e,h1,h2,h3⟩:=h.row k hk
    exact (h3.el j).qm (by decide)
   exact mcols_core v1 v2 v3 hl hm ⟨ha,q ha,la⟩ ⟨hb,q hb,lb⟩ ⟨⟨_,hx⟩,fun i=>(hx.el i).qm (by decide),lx⟩ na nb hx.len
theorem mcols_row {w:World}{P0 P1 A2:Option Addr}{N0 N1 C0 C1 c2:Nat}{vs0 vs1:Nat->VA}{es2:List E4}
  (n0:N0<=9223372036854775807) (h0:∀i,i<N0->∃b o,P0=some ⟨b,o,none⟩/\b<w.heap.size/\w.cell? ⟨b,o+i,none⟩=some (.slice (vs0 i).A (vs0 i).es.length (vs0 i).c)) (v0:∀i,i<N0->VIn w (vs0 i))
  (n1:N1<=9223372036854775807) (h1:∀i,i<N1->∃b o,P1=some ⟨b,o,none⟩/\b<w.heap.size/\w.cell? ⟨b,o+i,none⟩=some (.slice (vs1 i).A (vs1 i).es.length (vs1 i).c)) (v1:∀i,i<N1->VIn w (vs1 i))
  (v2:VIn w ⟨A2,c2,es2⟩) :
  Calls Tryz.prog 8 #[.slice P0 N0 C0,.slice P1 N1 C1,.slice A2 es2.length c2] w fun e w'=>e=.returned (.bool true)/\Below w.heap.size w w' :=
 mcols_any (A:=⟨P0,N0,C0,vs0⟩) (B:=⟨P1,N1,C1,vs1⟩) (X:=⟨A2,c2,es2⟩) ⟨h0,v0,n0⟩ ⟨h1,v1,n1⟩ v2
end Go.Proofs.YtglhdielkkhefaaGreat
