/- Parts: 3. -/
import Derived.Test.YtglhdielkkhefaaGreatMs19
import Derived.Test.YtglhdielkkhefaaGreatMs24
import Derived.Test.YtglhdielkkhefaaGreatMs25
import Derived.Test.YtglhdielkkhefaaGreatMs27
import Derived.Test.YtglhdielkkhefaaGreatMs29
set_option linter.unusedVariables false
set_option linter.unusedSimpArgs false
set_option maxRecDepth 100000
set_option maxHeartbeats 40000000

namespace Go.Proofs.YtglhdielkkhefaaGreat
open Go.RowKit Go.Shelf
theorem qm_1 : Qm 1 ((1:Int):Rat):=by refine ⟨?_,?_⟩<;>(unfold Sm;decide)
theorem tab_congr {N:Nat}{f g:Nat->Rat}(h:∀i,i<N->f i=g i):tab N f=tab N g:=List.map_congr_left fun i hi=>h i (List.mem_range.1 hi)
theorem MR.cong {w:World}{N:Nat}{rs ss:Nat->List Rat}{e:Ending}{w':World}(h:MR w N rs e w')(hs:∀i,rs i=ss i):MR w N ss e w':=by
 obtain rfl:rs=ss:=funext hs
 exact h
theorem cut_z {w:World}{n:Int}{N:Nat}(h:min (max n 0) 1024=(N:Int)) :
  Calls Tryz.prog 65 #[.int .i64 n] w fun e w'=>e=.returned (.int .i64 (N:Int))/\Below w.heap.size w w':=by
 obtain ⟨x,hx⟩:∃x,max n 0=x:=⟨_,rfl⟩
 rw[hx]at h
 go_enter Tryz.func65,Tryz.ntmps65
 go_wp2
 go_ret
 exact ⟨rfl,Below.refl _ _⟩
theorem rfit4_m {w:World}{P:Option Addr}{N C m R L:Nat}{n1 n2:Int}{rs:Nat->List Rat}(hM:Mi w P N C rs m)(hq:∀i j,Qm m (el rs N i j))(hm0:0<m)(hm:m<=9000)(h1:min (max n1 0) 1024=(R:Int))(h2:min (max n2 0) 1024=(L:Int)) :
  Calls Tryz.prog 22 #[.slice P N C,.int .i64 n1,.int .i64 n2] w (MR w R (fun i=>fitQ (rowL rs N i) (L:Int))):=by
 have HC:=Hd (fun V=>cut_z (w:=V) h1)
 have HD:=Hd (fun V=>cut_z (w:=V) h2)
 have HI:=Hd (fun V=>rint_q 1 (by decide) (by decide) V)
 have HF:=Hd (fun (V:World) (hV:Below w.heap.size w V) (x1 x2 x3 x4:Value) (q:Qc V x1 x2 x3 x4 ((1:Int):Rat))=>made_m (w:=V) (kd:=0) (k1:=x1) (k2:=x2) (k3:=x3) (k4:=x4) (P:=P) (Q:=none) (N:=N) (C:=C) (M:=0) (D:=0) (R:=R) (L:=L) (g:=fun i j=>((1:Int):Rat)*el rs N i j) (fun U hU i j _ _=>place_0 ((q.to hU).qi (k:=1) qm_1 (by decide)) (fun X hX=>by
  have h:=rat4_i (i:=(i:Int)) (j:=(j:Int)) (((hM.to hV).to hU).to hX) hm0 (by omega)
  rwa [elI_nat]at h) (hq i j) hm0 (by decide) (by omega)) (by omega) (by omega))
 have HE:Hid (∀i,tab L (fun j=>((1:Int):Rat)*el rs N i j)=fitQ (rowL rs N i) (L:Int)):=fun i=>by
  unfold fitQ
  rw[show min (L:Int).toNat 65536=L by omega]
  exact List.map_congr_left fun j _=>by
   show ((1:Int):Rat)*el rs N i j=_
   rw[show ((1:Int):Rat)=1 from rfl,Rat.one_mul]
   rfl
 clear hM hq hm0 hm h1 h2
 go_enter Tryz.func22,Tryz.ntmps22
 go_wp2_with fail
 refine (HC.out _).mono ?_
 rintro e V1 ⟨rfl,bb⟩
 have HB:=Hd bb
 clear bb
 go_wp2_with fail
 refine (HD.out _).mono ?_
 rintro e V2 ⟨rfl,bb⟩
 replace HB:=Hxb HB bb
 clear bb
 go_wp2_with fail
 refine (HI.out _).mono ?_
 rintro e V3 ⟨x1,x2,x3,x4,rfl,q,bb⟩
 replace HB:=Hxb HB bb
 have HFV:=Hd (HF.out V3 HB.out x1 x2 x3 x4 q)
 clear bb q HF HC HD HI
 go_wp2_with fail
 refine HFV.out.mono ?_
 rintro e V4 h
 obtain ⟨P2,C2,rfl,hm2,b2⟩:=h.cong HE.out
 have HX:=Hxb HB b2
 have HM2:=Hd hm2
 clear b2 h hm2 HE
 go_wp2
 go_ret
 exact ⟨P2,C2,rfl,HM2.out,HX.out⟩
theorem rturn4_m {w:World}{P:Option Addr}{N C m:Nat}{rs:Nat->List Rat}(hM:Mi w P N C rs m)(hm0:0<m)(hm:m<=10000)(hN:N<=100000)(hr:∀k,k<N->(rs k).length<=100000) :
  Calls Tryz.prog 24 #[.slice P N C] w (MR w (colsN rs N) (turnR rs N)):=by
 have hc:colsN rs N<=100000:=colsN_le hr
 have HC:=Hd (rcols_m (C:=C) hM.rs (by omega) (fun k hk=>by have:=hr k hk;omega))
 have HF:=Hd (fun (V:World) (hV:Below w.heap.size w V)=>made_m (w:=V) (kd:=1) (k1:=.bool false) (k2:=.slice none 0 0) (k3:=.bool false) (k4:=.slice none 0 0) (P:=P) (Q:=none) (N:=N) (C:=C) (M:=0) (D:=0) (R:=colsN rs N) (L:=N) (g:=fun i j=>el rs N j i) (fun U hU i j _ _=>place_1 (fun X hX=>by
  have h:=rat4_i (i:=(j:Int)) (j:=(i:Int)) (((hM.to hV).to hU).to hX) hm0 hm
  rwa [elI_nat]at h)) (by omega) (by omega))
 have HE:Hid (∀i,tab N (fun j=>el rs N j i)=turnR rs N i):=fun i=>tab_congr fun j hj=>el_in hj
 obtain ⟨c,hcc⟩:∃c,colsN rs N=c:=⟨_,rfl⟩
 rw[hcc]at HC HF ⊢
 clear hM hm0 hm hN hr hc hcc
 go_enter Tryz.func24,Tryz.ntmps24
 go_wp2_with fail
 refine HC.out.mono ?_
 rintro e V1 ⟨rfl,bb⟩
 have HB:=Hd bb
 have HFV:=Hd (HF.out V1 bb)
 clear bb HC HF
 go_wp2_with fail
 refine HFV.out.mono ?_
 rintro e V4 h
 obtain ⟨P2,C2,rfl,hm2,b2⟩:=h.cong HE.out
 have HX:=Hxb HB b2
 have HM2:=Hd hm2
 clear b2 h hm2 HE
 go_wp2
 go_ret
 exact ⟨P2,C2,rfl,HM2.out,HX.out⟩
theorem runit4_m {w:World}{n:Int}{N:Nat}(h:min (max n 0) 1024=(N:Int)) :
  Calls Tryz.prog 26 #[.int .i64 n] w (MR w N (fun i=>unitQ (N:Int) (i:Int))):=by
 have HL:Hid (N<=1024):=by show N<=1024;omega
 have HC:=Hd (fun V=>cut_z (w:=V) h)
 obtain ⟨rs,hrs⟩:∃rs:Nat->List Rat,rs=fun i:Nat=>unitQ (N:Int) (i:Int):=⟨_,rfl⟩
 have HU:=Hd (fun (V:World) (k:Nat)=>runit_v (w:=V) (n:=(N:Int)) (m:=(k:Int)) (by have:=HL.out;omega))
 have hrk:∀k:Nat,unitQ (N:Int) (k:Int)=rs k:=fun k=>by rw[hrs]
 simp only[hrk]at HU
 rw[<-hrs]
 clear h hrs hrk
 go_enter Tryz.func26,Tryz.ntmps26
 go_wp2
 go_loopw [3,4] (fun v i wr=>∃(k:Nat) (A1:Option Addr) (c1:Nat),v=.slice A1 k c1/\i=.int .i64 k/\k<=N/\Hid (TotS (Vs rs) wr (.slice A1 k c1) k w.heap.size)/\Below w.heap.size w wr) (fun _ i _=>N-(intOf i).toNat)
 case atStart=>exact ⟨0,none,0,rfl,rfl,Nat.zero_le _,.inl ⟨rfl,rfl⟩,Below.refl _ _⟩
 case round =>
  obtain ⟨k,A1,c1,rfl,rfl,hk,hT,hb⟩:=hrel
  have HB:=Hd hb
  clear hb
  go_wp2_with fail
  refine (HC.out _).mono ?_
  rintro e V1 ⟨rfl,bb⟩
  have hT1:=Hd (hT.out.mv (Vs.kept rs) bb)
  have HB1:=Hxb HB bb
  clear hT HB bb
  by_cases hlt:k<N
  .have hk1:(0:Int)<=(k:Int):=by omega
   have hk2:(k:Int)<(N:Int):=by omega
   have hk3:(k:Int)+1<=9223372036854775807:=by have:=HL.out;omega
   have HLT:=Hd hlt
   clear hlt hk
   go_wp2_with fail
   refine (HC.out _).mono ?_
   rintro e V2 ⟨rfl,bb⟩
   have hT2':=Hd (hT1.out.mv (Vs.kept rs) bb)
   have HB2:=Hxb HB1 bb
   clear hT1 HB1 bb
   go_wp2_with fail
   refine (HU.out _ k).mono ?_
   rintro e V ⟨A2,c2,fl2,rfl,hv,bb⟩
   have bb2:Below V.heap.size V (V.alloc (.cells #[.slice A2 (rs k).length c2] 38)):=(Below.refl _ _).alloc (Nat.le_refl _) _
   have c5:=(Hp.new V #[.slice A2 (rs k).length c2] 38).one
   have hB1:=HB2.out.trans (bb.mono HB2.out.size)
   have hB2:=Bxb hB1 bb2
   obtain ⟨v',X,hrun,hT2,hbel⟩:=sapp (Vs.kept rs) ((hT2'.out.mv (Vs.kept rs) bb).mv (Vs.kept rs) bb2) hB2.size (by have:=HL.out;have:=HLT.out;omega) ⟨_,_,_,rfl⟩ ⟨A2,c2,fl2,rfl,hv.to bb2⟩ (a:=⟨V.heap.size,0,none⟩) (c:=1) c5 22
   obtain ⟨A3,c3,rfl⟩:=hT2.sl
   have HRUN:=Hd hrun
   have HE:Hid (TotS (Vs rs) X (.slice A3 (k+1) c3) (k+1) w.heap.size/\Below w.heap.size w X):=⟨hT2,hB2.trans hbel⟩
   clear bb2 c5 hbel hrun bb hv hT2 hB1 hB2
   go_wp2_with (at_builtin;refine wpList_append_run rfl (.tmp 11) (.tmp 16) 22 rfl (by rfl) (by rfl) HRUN.out ?_;clear HRUN)
   go_roundw
   case rel=>exact ⟨k+1,A3,c3,rfl,by simp,HLT.out,HE.out.1,HE.out.2⟩
   case measure=>have:=HLT.out;simp[intOf];omega
  .obtain rfl:k=N:=by omega
   clear hlt hk
   go_wp2
   go_ret
   exact ⟨A1,c1,rfl,hT1.out.mc,HB1.out⟩
theorem rowr_l {w:World}{P:Option Addr}{N C m i:Nat}{rs:Nat->List Rat}(hM:Mi w P N C rs m) :
  Calls Tryz.prog 59 #[.slice P N C,.int .i64 (i:Int)] w fun e w'=>∃A c es,e=.returned (.slice A (rowL rs N i).length c)/\Vi w' A c es (rowL rs N i) m/\Below w.heap.size w w':=by
 unfold rowL
 by_cases hi:i<N
 .rw[if_pos hi]
  obtain ⟨b,o,A,c,es,rfl,hb1,hc,hv⟩:=hM.row i hi
  have hN:=hM.n63
  obtain ⟨r,hr⟩:∃r,rs i=r:=⟨_,rfl⟩
  rw[hr]at hc hv
  rw[hr]
  have hi1:(0:Int)<=(i:Int):=by omega
  have hi2:(i:Int)<(N:Int):=by omega
  have HV:=Hd hv
  clear hM hi hv hr hb1
  go_enter Tryz.func59,Tryz.ntmps59
  go_wp2
  go_ret
  exact ⟨A,c,es,rfl,HV.out,Below.refl _ _⟩
 .rw[if_neg hi]
  have hi2:¬(i:Int)<(N:Int):=by omega
  clear hM hi
  go_enter Tryz.func59,Tryz.ntmps59
  go_wp2
  go_ret
  exact ⟨none,0,rfl,⟨[],Vi.nil _ (by decide)⟩,Below.refl _ _⟩
theorem rsame4_m {w:World}{P Q:Option Addr}{N C M D m l:Nat}{rs ss:Nat->List Rat}(hM:Mi w P N C rs m)(hB:Mi w Q M D ss l)(hm:0<m)(hl:0<l)(hml:m+l+1<=10000)(hN:N<=4398046511104)(hMM:M<=4398046511104)(hr:∀k,k<N->(rs k).length<=1000000)(hs:∀k,k<M->(ss k).length<=1000000) :
  Calls Tryz.prog 19 #[.slice P N C,.slice Q M D] w fun e w'=>e=.returned (.bool (eqM rs N ss M))/\Below w.heap.size w w':=by
 have HX:=Hd (fun (V:World) (i:Nat) (hV:Below w.heap.size w V)=>rowr_l (i:=i) (hM.to hV))
 have HY:=Hd (fun (V:World) (i:Nat) (hV:Below w.heap.size w V)=>rowr_l (i:=i) (hB.to hV))
 have HLX:Hid (∀k,(rowL rs N k).length<=4398046511104):=fun k=>Nat.le_trans (rowL_le hr k) (by decide)
 have HLY:Hid (∀k,(rowL ss M k).length<=4398046511104):=fun k=>Nat.le_trans (rowL_le hs k) (by decide)
 have HMM:Hid (0<m/\0<l/\m+l+1<=10000):=⟨hm,hl,hml⟩
 clear hM hB hm hl hml hr hs
 go_enter Tryz.func19,Tryz.ntmps19
 go_wp2
 go_loopw [5] (fun i wr=>∃k:Nat,i=.int .i64 k/\k<=max N M/\(∀j,j<k->lexQ (rowL rs N j) (rowL ss M j)=0)/\Below w.heap.size w wr) (fun i _=>max N M-(intOf i).toNat)
 case atStart=>exact ⟨0,rfl,Nat.zero_le _,(fun j hj=>by omega),Below.refl _ _⟩
 case round =>
  obtain ⟨k,rfl,hk',ht,hb⟩:=hrel
  have HT:=Hd ht
  have HBB:=Hd hb
  clear ht hb
  have hki:(0:Int)<=(k:Int):=by omega
  have hk63:(k:Int)+1<=9223372036854775807:=by omega
  by_cases hx:k<N
  .have hx1:(k:Int)<(N:Int):=by omega
   go_wp2_with fail
   refine (HX.out wr k HBB.out).mono ?_
   rintro e V1 ⟨A1,c1,es1,rfl,x1,b1⟩
   have B1:=Hxb HBB b1
   clear b1
   go_wp2_with fail
   refine (HY.out V1 k B1.out).mono ?_
   rintro e V2 ⟨A2,c2,es2,rfl,x2,b2⟩
   have B2:=Hxb B1 b2
   replace x1:=x1.to b2
   clear b2 B1
   obtain ⟨v,hv⟩:∃v,lexQ (rowL rs N k) (rowL ss M k)=v:=⟨_,rfl⟩
   have HC2:=Hd (rlex_v (c:=c1) (c':=c2) x1 x2 HMM.out.1 HMM.out.2.1 HMM.out.2.2 (HLX.out k) (HLY.out k) hv)
   have HV:=Hd hv
   have HLT:Hid (k<max N M):=by show _<_;omega
   clear hv x1 x2
   go_wp2_with fail
   refine HC2.out.mono ?_
   rintro e V3 ⟨rfl,b3⟩
   have B3:=Hxb B2 b3
   clear b3 B2 HC2
   by_cases h0:v=0
   .have ht:(v != 0)=false:=by rw[h0];rfl
    have H0:=Hd h0
    clear h0
    go_wp2
    go_roundw
    case rel =>
     refine ⟨k+1,by simp,HLT.out,fun j hj=>?_,B3.out⟩
     by_cases hjk:j=k
     .subst hjk;rw[HV.out];exact H0.out
     .exact HT.out j (by omega)
    case measure=>have:=HLT.out;simp[intOf];omega
   .have ht:(v != 0)=true:=by rw[bne_iff_ne];exact h0
    have H0:=Hd h0
    clear h0
    go_wp2
    go_ret
    have hE:eqM rs N ss M=false:=by
     refine List.all_eq_false.2 ⟨k,List.mem_range.2 HLT.out,?_⟩
     rw[HV.out]
     simpa using H0.out
    exact ⟨by rw[hE];rfl,B3.out⟩
  .have hx1:¬(k:Int)<(N:Int):=by omega
   by_cases hy:k<M
   .have hy1:(k:Int)<(M:Int):=by omega
    go_wp2_with fail
    refine (HX.out wr k HBB.out).mono ?_
    rintro e V1 ⟨A1,c1,es1,rfl,x1,b1⟩
    have B1:=Hxb HBB b1
    clear b1
    go_wp2_with fail
    refine (HY.out V1 k B1.out).mono ?_
    rintro e V2 ⟨A2,c2,es2,rfl,x2,b2⟩
    have B2:=Hxb B1 b2
    replace x1:=x1.to b2
    clear b2 B1
    obtain ⟨v,hv⟩:∃v,lexQ (rowL rs N k) (rowL ss M k)=v:=⟨_,rfl⟩
    have HC2:=Hd (rlex_v (c:=c1) (c':=c2) x1 x2 HMM.out.1 HMM.out.2.1 HMM.out.2.2 (HLX.out k) (HLY.out k) hv)
    have HV:=Hd hv
    have HLT:Hid (k<max N M):=by show _<_;omega
    clear hv x1 x2
    go_wp2_with fail
    refine HC2.out.mono ?_
    rintro e V3 ⟨rfl,b3⟩
    have B3:=Hxb B2 b3
    clear b3 B2 HC2
    by_cases h0:v=0
    .have ht:(v != 0)=false:=by rw[h0];rfl
     have H0:=Hd h0
     clear h0
     go_wp2
     go_roundw
     case rel =>
      refine ⟨k+1,by simp,HLT.out,fun j hj=>?_,B3.out⟩
      by_cases hjk:j=k
      .subst hjk;rw[HV.out];exact H0.out
      .exact HT.out j (by omega)
     case measure=>have:=HLT.out;simp[intOf];omega
    .have ht:(v != 0)=true:=by rw[bne_iff_ne];exact h0
     have H0:=Hd h0
     clear h0
     go_wp2
     go_ret
     have hE:eqM rs N ss M=false:=by
      refine List.all_eq_false.2 ⟨k,List.mem_range.2 HLT.out,?_⟩
      rw[HV.out]
      simpa using H0.out
     exact ⟨by rw[hE];rfl,B3.out⟩
   .have hy1:¬(k:Int)<(M:Int):=by omega
    go_wp2
    go_ret
    have hE:eqM rs N ss M=true:=List.all_eq_true.2 fun i hi=>decide_eq_true (HT.out i (by have:=List.mem_range.1 hi;omega))
    exact ⟨by rw[hE];rfl,HBB.out⟩
theorem mmat_long {w:World}{A B:MA}{i k r c:Int}(v1:MIn w A)(v2:MIn w B)(hl:[A,B].any lngM=true) :
  Calls Tryz.prog 3 #[.slice A.P A.N A.C,.slice B.P B.N B.C,.int .i64 i,.int .i64 k,.int .i64 r,.int .i64 c] w fun e w'=>e=.returned (.bool true)/\Below w.heap.size w w':=by
 obtain ⟨W0,hW0⟩:∃W0,W0=w.alloc (.cells #[.slice A.P A.N A.C,.slice B.P B.N B.C] 22):=⟨_,rfl⟩
 have hbw:Below w.heap.size w W0:=by rw[hW0];exact (Below.refl _ _).alloc (Nat.le_refl _) _
 have hp:Hp W0 w.heap.size (.cells #[.slice A.P A.N A.C,.slice B.P B.N B.C] 22 (0,0)):=by rw[hW0];exact Hp.new _ _ _
 have HL:=Hd (long4_o (some ⟨w.heap.size,0,none⟩) [A,B] 2 W0 (fun i hi=>by
  match i,hi with
  | 0,_=>exact ⟨_,_,rfl,hp.lt,(hp.cellAt _).trans rfl⟩
  | 1,_=>exact ⟨_,_,rfl,hp.lt,(hp.cellAt _).trans rfl⟩) (fun v hv=>by
  simp only[List.mem_cons,List.not_mem_nil,or_false]at hv
  rcases hv with rfl|rfl
  .exact v1.to hbw
  .exact v2.to hbw) (by simp) (r:=true) (by simpa using hl))
 have HW0:=Hd hW0
 have HB:=Hd hbw
 clear hW0 hbw hp hl v1 v2
 go_enter Tryz.func3,Tryz.ntmps3
 go_wp2_with fail
 rw[<-HW0.out]
 refine HL.out.mono ?_
 rintro e V ⟨rfl,bb⟩
 clear HL HW0
 replace HB:=Hxb HB bb
 clear bb
 go_wp2_with fail
 refine (malive_any _).mono ?_
 rintro e V ⟨rfl,bb⟩
 replace HB:=Hxb HB bb
 clear bb
 go_wp2
 go_ret
 exact ⟨rfl,HB.out⟩
theorem mmat_rows {w:World}{A B:MA}{i k r c:Int}(v1:MIn w A)(v2:MIn w B)(hl:[A,B].any lngM=false)(h1:(40:Int)<r) :
  Calls Tryz.prog 3 #[.slice A.P A.N A.C,.slice B.P B.N B.C,.int .i64 i,.int .i64 k,.int .i64 r,.int .i64 c] w fun e w'=>e=.returned (.bool true)/\Below w.heap.size w w':=by
 obtain ⟨W0,hW0⟩:∃W0,W0=w.alloc (.cells #[.slice A.P A.N A.C,.slice B.P B.N B.C] 22):=⟨_,rfl⟩
 have hbw:Below w.heap.size w W0:=by rw[hW0];exact (Below.refl _ _).alloc (Nat.le_refl _) _
 have hp:Hp W0 w.heap.size (.cells #[.slice A.P A.N A.C,.slice B.P B.N B.C] 22 (0,0)):=by rw[hW0];exact Hp.new _ _ _
 have HL:=Hd (long4_o (some ⟨w.heap.size,0,none⟩) [A,B] 2 W0 (fun i hi=>by
  match i,hi with
  | 0,_=>exact ⟨_,_,rfl,hp.lt,(hp.cellAt _).trans rfl⟩
  | 1,_=>exact ⟨_,_,rfl,hp.lt,(hp.cellAt _).trans rfl⟩) (fun v hv=>by
  simp only[List.mem_cons,List.not_mem_nil,or_false]at hv
  rcases hv with rfl|rfl
  .exact v1.to hbw
  .exact v2.to hbw) (by simp) (r:=false) (by simpa using hl))
 have HW0:=Hd hW0
 have HB:=Hd hbw
 clear hW0 hbw hp hl v1 v2
 go_enter Tryz.func3,Tryz.ntmps3
 go_wp2_with fail
 rw[<-HW0.out]
 refine HL.out.mono ?_
 rintro e V ⟨rfl,bb⟩
 clear HL HW0
 replace HB:=Hxb HB bb
 clear bb
 go_wp2_with fail
 refine (malive_any _).mono ?_
 rintro e V ⟨rfl,bb⟩
 replace HB:=Hxb HB bb
 clear bb
 go_wp2
 go_ret
 exact ⟨rfl,HB.out⟩
theorem mmat_cols {w:World}{A B:MA}{i k r c:Int}(v1:MIn w A)(v2:MIn w B)(hl:[A,B].any lngM=false)(h1:¬(40:Int)<r)(h2:(40:Int)<c) :
  Calls Tryz.prog 3 #[.slice A.P A.N A.C,.slice B.P B.N B.C,.int .i64 i,.int .i64 k,.int .i64 r,.int .i64 c] w fun e w'=>e=.returned (.bool true)/\Below w.heap.size w w':=by
 obtain ⟨W0,hW0⟩:∃W0,W0=w.alloc (.cells #[.slice A.P A.N A.C,.slice B.P B.N B.C] 22):=⟨_,rfl⟩
 have hbw:Below w.heap.size w W0:=by rw[hW0];exact (Below.refl _ _).alloc (Nat.le_refl _) _
 have hp:Hp W0 w.heap.size (.cells #[.slice A.P A.N A.C,.slice B.P B.N B.C] 22 (0,0)):=by rw[hW0];exact Hp.new _ _ _
 have HL:=Hd (long4_o (some ⟨w.heap.size,0,none⟩) [A,B] 2 W0 (fun i hi=>by
  match i,hi with
  | 0,_=>exact ⟨_,_,rfl,hp.lt,(hp.cellAt _).trans rfl⟩
  | 1,_=>exact ⟨_,_,rfl,hp.lt,(hp.cellAt _).trans rfl⟩) (fun v hv=>by
  simp only[List.mem_cons,List.not_mem_nil,or_false]at hv
  rcases hv with rfl|rfl
  .exact v1.to hbw
  .exact v2.to hbw) (by simp) (r:=false) (by simpa using hl))
 have HW0:=Hd hW0
 have HB:=Hd hbw
 clear hW0 hbw hp hl v1 v2
 go_enter Tryz.func3,Tryz.ntmps3
 go_wp2_with fail
 rw[<-HW0.out]
 refine HL.out.mono ?_
 rintro e V ⟨rfl,bb⟩
 clear HL HW0
 replace HB:=Hxb HB bb
 clear bb
 go_wp2_with fail
 refine (malive_any _).mono ?_
 rintro e V ⟨rfl,bb⟩
 replace HB:=Hxb HB bb
 clear bb
 go_wp2
 go_ret
 exact ⟨rfl,HB.out⟩
theorem mmat_core {w:World}{A B:MA}{i k r c:Int}(v1:MIn w A)(v2:MIn w B){n:Nat->Nat}{U:Nat->Nat->W4}{b:Nat->List Rat}(hl:[A,B].any lngM=false)(h1:¬(40:Int)<r)(h2:¬(40:Int)<c)(wa:Mw w A.P A.N A.C n U)(xb:Mi w B.P B.N B.C b 6)(na:A.N<=8)(nb:B.N<=8)(la:∀k,k<A.N->n k<=8)(lb:∀k,k<B.N->(b k).length<=8) :
  Calls Tryz.prog 3 #[.slice A.P A.N A.C,.slice B.P B.N B.C,.int .i64 i,.int .i64 k,.int .i64 r,.int .i64 c] w fun e w'=>e=.returned (.bool true)/\Below w.heap.size w w':=by
 obtain ⟨W0,hW0⟩:∃W0,W0=w.alloc (.cells #[.slice A.P A.N A.C,.slice B.P B.N B.C] 22):=⟨_,rfl⟩
 have hbw:Below w.heap.size w W0:=by rw[hW0];exact (Below.refl _ _).alloc (Nat.le_refl _) _
 have hp:Hp W0 w.heap.size (.cells #[.slice A.P A.N A.C,.slice B.P B.N B.C] 22 (0,0)):=by rw[hW0];exact Hp.new _ _ _
 have HL:=Hd (long4_o (some ⟨w.heap.size,0,none⟩) [A,B] 2 W0 (fun i hi=>by
  match i,hi with
  | 0,_=>exact ⟨_,_,rfl,hp.lt,(hp.cellAt _).trans rfl⟩
  | 1,_=>exact ⟨_,_,rfl,hp.lt,(hp.cellAt _).trans rfl⟩) (fun v hv=>by
  simp only[List.mem_cons,List.not_mem_nil,or_false]at hv
  rcases hv with rfl|rfl
  .exact v1.to hbw
  .exact v2.to hbw) (by simp) (r:=false) (by simpa using hl))
 have HW0:=Hd hW0
 have HB:=Hd hbw
 replace wa:=wa.to hbw
 replace xb:=xb.to hbw
 obtain ⟨PA,NA,CA,_⟩:=A
 obtain ⟨PB,NB,CB,_⟩:=B
 dsimp only at wa xb na nb la lb HL HW0 ⊢
 have LA:Hid (∀k,k<NA->(ratsU n U k).length<=8):=fun k hk=>by rw[ratsU_length];exact la k hk
 have LB:=Hd lb
 have HNA:=Hd na
 have HNB:=Hd nb
 have HQ:Hid (∀i j,Qm 6 (el (ratsU n U) NA i j)):=fun i j=>by
  by_cases hi:i<NA
  .rw[el_in hi]
   obtain ⟨b,o,A,c,es,e,h1,h2,h3⟩:=wa.mi.row i hi
   exact (h3.el j).qm (by decide)
  .rw[el_out hi];exact Qm.zero (by decide)
 obtain ⟨R,hR⟩:∃R:Nat,min (max r 0) 1024=(R:Int):=⟨(min (max r 0) 1024).toNat,by omega⟩
 obtain ⟨L,hL⟩:∃L:Nat,min (max c 0) 1024=(L:Int):=⟨(min (max c 0) 1024).toNat,by omega⟩
 have HR:=Hd hR
 have HLL:=Hd hL
 have HR40:Hid (R<=1024/\L<=1024):=by show _/\_;omega
 obtain ⟨cc,hcc⟩:∃cc,colsN (ratsU n U) NA=cc:=⟨_,rfl⟩
 have HCC:=Hd hcc
 obtain ⟨v,hv⟩:∃v,eqM (ratsU n U) NA b NB=v:=⟨_,rfl⟩
 have HV:=Hd hv
 have hne:(v != v)=false:=by cases v<;>rfl
 clear hW0 hbw hp hl v1 v2 na nb la lb hR hL hcc hv
 go_enter Tryz.func3,Tryz.ntmps3
 go_wp2_with fail
 rw[<-HW0.out]
 refine HL.out.mono ?_
 rintro e V ⟨rfl,bb⟩
 clear HL HW0
 replace wa:=wa.to bb
 replace xb:=xb.to bb
 replace HB:=Hxb HB bb
 clear bb
 go_wp2_with fail
 refine (own4_x wa (by have:=HNA.out;omega)).mono ?_
 rintro e V ⟨PM,CM,rfl,wm,bb⟩
 replace wa:=wa.to bb
 replace xb:=xb.to bb
 replace HB:=Hxb HB bb
 clear bb
 go_wp2_with fail
 have hcall:=cols_m (C:=CM) wm.mi.rs (by have:=HNA.out;omega) (fun k hk=>by have:=LA.out k hk;omega)
 rw[HCC.out]at hcall
 refine (hcall).mono ?_
 rintro e V ⟨rfl,bb⟩
 replace wa:=wa.to bb
 replace xb:=xb.to bb
 replace wm:=wm.to bb
 replace HB:=Hxb HB bb
 clear bb
 clear hcall
 go_wp2_with fail
 have hcall:=rcols_m (C:=CA) wa.mi.rs (by have:=HNA.out;omega) (fun k hk=>by have:=LA.out k hk;omega)
 rw[HCC.out]at hcall
 refine (hcall).mono ?_
 rintro e V ⟨rfl,bb⟩
 replace wa:=wa.to bb
 replace xb:=xb.to bb
 replace wm:=wm.to bb
 replace HB:=Hxb HB bb
 clear bb
 clear hcall
 go_wp2_with fail
 refine (at_i (i:=i) (j:=k) wm.mi (by decide) (fun k hk=>by have:=LA.out k hk;omega)).mono ?_
 rintro e V ⟨x1,x2,x3,x4,rfl,q1,bb⟩
 replace wa:=wa.to bb
 replace xb:=xb.to bb
 replace wm:=wm.to bb
 replace HB:=Hxb HB bb
 clear bb
 go_wp2_with fail
 refine (rat4_i (i:=i) (j:=k) wa.mi (by decide) (by decide)).mono ?_
 rintro e V ⟨y1,y2,y3,y4,rfl,q2,bb⟩
 replace wa:=wa.to bb
 replace xb:=xb.to bb
 replace wm:=wm.to bb
 replace q1:=q1.to bb
 replace HB:=Hxb HB bb
 clear bb
 go_wp2_with fail
 refine (is_q q1 q2 (v:=true) (decide_eq_true rfl)).mono ?_
 rintro e V ⟨rfl,bb⟩
 clear q1
 clear q2
 replace wa:=wa.to bb
 replace xb:=xb.to bb
 replace wm:=wm.to bb
 replace HB:=Hxb HB bb
 clear bb
 go_wp2_with fail
 refine (mequal_m wm.mi xb (by decide) (by decide) (by decide) (by have:=HNA.out;omega) (by have:=HNB.out;omega) (fun k hk=>by have:=LA.out k hk;omega) (fun k hk=>by have:=LB.out k hk;omega) HV.out).mono ?_
 rintro e V ⟨rfl,bb⟩
 replace wa:=wa.to bb
 replace xb:=xb.to bb
 replace wm:=wm.to bb
 replace HB:=Hxb HB bb
 clear bb
 go_wp2_with fail
 have hcall:=rsame4_m wa.mi xb (by decide) (by decide) (by decide) (by have:=HNA.out;omega) (by have:=HNB.out;omega) (fun k hk=>by have:=LA.out k hk;omega) (fun k hk=>by have:=LB.out k hk;omega)
 rw[HV.out]at hcall
 refine (hcall).mono ?_
 rintro e V ⟨rfl,bb⟩
 replace wa:=wa.to bb
 replace xb:=xb.to bb
 replace wm:=wm.to bb
 replace HB:=Hxb HB bb
 clear bb
 clear hcall
 go_wp2_with fail
 refine (resize_m wm.mi (by decide) (fun k hk=>by have:=LA.out k hk;omega) HR.out HLL.out).mono ?_
 rintro e V ⟨P1,C1,rfl,r1,bb⟩
 replace wa:=wa.to bb
 replace xb:=xb.to bb
 replace wm:=wm.to bb
 replace HB:=Hxb HB bb
 clear bb
 go_wp2_with fail
 refine (rfit4_m wa.mi HQ.out (by decide) (by decide) HR.out HLL.out).mono ?_
 rintro e V ⟨P2,C2,rfl,r2,bb⟩
 replace wa:=wa.to bb
 replace xb:=xb.to bb
 replace wm:=wm.to bb
 replace r1:=r1.to bb
 replace HB:=Hxb HB bb
 clear bb
 go_wp2_with fail
 refine (is4_t r1 r2 (fun _ _=>rfl) (fun k _=>by rw[fitQ_length];omega)).mono ?_
 rintro e V ⟨rfl,bb⟩
 clear r1
 clear r2
 replace wa:=wa.to bb
 replace xb:=xb.to bb
 replace wm:=wm.to bb
 replace HB:=Hxb HB bb
 clear bb
 go_wp2_with fail
 have hcall:=turn_m wm.mi (by decide) (by have:=HNA.out;omega) (fun k hk=>by have:=LA.out k hk;omega)
 rw[HCC.out]at hcall
 refine (hcall).mono ?_
 rintro e V ⟨P3,C3,rfl,r3,bb⟩
 replace wa:=wa.to bb
 replace xb:=xb.to bb
 replace wm:=wm.to bb
 replace HB:=Hxb HB bb
 clear bb
 clear hcall
 go_wp2_with fail
 have hcall:=rturn4_m wa.mi (by decide) (by decide) (by have:=HNA.out;omega) (fun k hk=>by have:=LA.out k hk;omega)
 rw[HCC.out]at hcall
 refine (hcall).mono ?_
 rintro e V ⟨P4,C4,rfl,r4,bb⟩
 replace wa:=wa.to bb
 replace xb:=xb.to bb
 replace wm:=wm.to bb
 replace r3:=r3.to bb
 replace HB:=Hxb HB bb
 clear bb
 clear hcall
 go_wp2_with fail
 refine (is4_t r3 r4 (fun _ _=>rfl) (fun k _=>by rw[tab_length];have:=HNA.out;omega)).mono ?_
 rintro e V ⟨rfl,bb⟩
 clear r3
 clear r4
 replace wa:=wa.to bb
 replace xb:=xb.to bb
 replace wm:=wm.to bb
 replace HB:=Hxb HB bb
 clear bb
 go_wp2_with fail
 refine (ident_m HR.out).mono ?_
 rintro e V ⟨P5,C5,rfl,r5,bb⟩
 replace wa:=wa.to bb
 replace xb:=xb.to bb
 replace wm:=wm.to bb
 replace HB:=Hxb HB bb
 clear bb
 go_wp2_with fail
 refine (runit4_m HR.out).mono ?_
 rintro e V ⟨P6,C6,rfl,r6,bb⟩
 replace wa:=wa.to bb
 replace xb:=xb.to bb
 replace wm:=wm.to bb
 replace r5:=r5.to bb
 replace HB:=Hxb HB bb
 clear bb
 go_wp2_with fail
 refine (is4_t r5 r6 (fun _ _=>rfl) (fun k _=>by rw[unitQ_length];omega)).mono ?_
 rintro e V ⟨rfl,bb⟩
 clear r5
 clear r6
 replace wa:=wa.to bb
 replace xb:=xb.to bb
 replace wm:=wm.to bb
 replace HB:=Hxb HB bb
 clear bb
 go_wp2_with fail
 refine (is4_x wm wa).mono ?_
 rintro e V ⟨rfl,bb⟩
 clear wm
 clear wa
 replace xb:=xb.to bb
 replace HB:=Hxb HB bb
 clear bb
 go_wp2_with fail
 refine (malive_any _).mono ?_
 rintro e V ⟨rfl,bb⟩
 replace HB:=Hxb HB bb
 clear bb
 go_wp2
 go_ret
 exact ⟨rfl,HB.out⟩
theorem mmat_any {w:World}{A B:MA}{i k r c:Int}(v1:MIn w A)(v2:MIn w B) :
  Calls Tryz.prog 3 #[.slice A.P A.N A.C,.slice B.P B.N B.C,.int .i64 i,.int .i64 k,.int .i64 r,.int .i64 c] w fun e w'=>e=.returned (.bool true)/\Below w.heap.size w w':=by
 cases hl:[A,B].any lngM with
 | true=>exact mmat_long v1 v2 hl
 | false =>
  by_cases h1:(40:Int)<r
  .exact mmat_rows v1 v2 hl h1
  .by_cases h2:(40:Int)<c
   .exact mmat_cols v1 v2 hl h1 h2
   .have hl':=hl
    simp only[List.any_cons,List.any_nil,Bool.or_false,Bool.or_eq_false_iff]at hl'
    obtain ⟨n,U,ha,na,la⟩:=v1.mw hl'.1
    obtain ⟨b,hb,nb,lb⟩:=v2.mi hl'.2
    exact mmat_core v1 v2 hl h1 h2 ha hb na nb la lb
theorem mmat_row {w:World}{P0 P1:Option Addr}{N0 N1 C0 C1:Nat}{vs0 vs1:Nat->VA}{x2 x3 x4 x5:Int}
  (n0:N0<=9223372036854775807) (h0:∀i,i<N0->∃b o,P0=some ⟨b,o,none⟩/\b<w.heap.size/\w.cell? ⟨b,o+i,none⟩=some (.slice (vs0 i).A (vs0 i).es.length (vs0 i).c)) (v0:∀i,i<N0->VIn w (vs0 i))
  (n1:N1<=9223372036854775807) (h1:∀i,i<N1->∃b o,P1=some ⟨b,o,none⟩/\b<w.heap.size/\w.cell? ⟨b,o+i,none⟩=some (.slice (vs1 i).A (vs1 i).es.length (vs1 i).c)) (v1:∀i,i<N1->VIn w (vs1 i))
  (_:-9223372036854775808<=x2) (_:x2<=9223372036854775807) (_:-9223372036854775808<=x3) (_:x3<=9223372036854775807) (_:-9223372036854775808<=x4) (_:x4<=9223372036854775807) (_:-9223372036854775808<=x5) (_:x5<=9223372036854775807) :
  Calls Tryz.prog 3 #[.slice P0 N0 C0,.slice P1 N1 C1,.int .i64 x2,.int .i64 x3,.int .i64 x4,.int .i64 x5] w fun e w'=>e=.returned (.bool true)/\Below w.heap.size w w' :=
 mmat_any (A:=⟨P0,N0,C0,vs0⟩) (B:=⟨P1,N1,C1,vs1⟩) ⟨h0,v0,n0⟩ ⟨h1,v1,n1⟩
end Go.Proofs.YtglhdielkkhefaaGreat
