/- Parts: 11. -/
import Derived.Test.YtglhdielkkhefaaGreatMt5
import Derived.Test.YtglhdielkkhefaaGreatMt14
import Derived.Test.YtglhdielkkhefaaGreatMt18
import Derived.Test.YtglhdielkkhefaaGreatMt19
import Derived.Test.YtglhdielkkhefaaGreatMt20
import Derived.Below
import Derived.ChangeOld
import Derived.Deep.Slices
import Derived.Lib.SmallJoins
import Derived.OpenShut
import Derived.ProofKit
import Derived.ShutString
import Derived.WalkKit
set_option linter.unusedVariables false
set_option linter.unusedSimpArgs false
set_option maxRecDepth 100000
set_option maxHeartbeats 40000000

namespace Go.Proofs.YtglhdielkkhefaaGreat
open Go.RowKit Go.Shelf
theorem rints_v {w:World}{A:Option Addr}{c:Nat}{ns:List Int}(h:Rn w A ns)(hn:∀n∈ns,-9223372036854775808<=n/\n<=9223372036854775807)(hl:ns.length+1<=1000000) :
  Calls Tryz.prog 50 #[.slice A ns.length c] w (VR w (ratsOf ns)):=by
 have H:=Hd h;have HN:=Hd hn;have HL:=Hd hl;obtain ⟨f,hf⟩:∃f:Nat->Rat,Hid (f=fun i=>(ratsOf ns).getD i 0):=⟨_,rfl⟩
 obtain ⟨N,hN⟩:∃N,ns.length=N:=⟨_,rfl⟩
 have HNN:=Hd hN;rw[hN]at hl HL ⊢;clear h hn hN
 go_enter Tryz.func50,Tryz.ntmps50
 go_wp2
 go_loopw [3,4] (fun v i wr=>∃(k:Nat) (A1:Option Addr) (c1:Nat),v=.slice A1 k c1/\i=.int .i64 k/\k<=N/\Hid (TotV wr (.slice A1 k c1) k f w.heap.size)/\Below w.heap.size w wr) (fun _ i _=>N-(intOf i).toNat)
 case atStart=>exact ⟨0,none,0,rfl,rfl,Nat.zero_le _,.inl ⟨rfl,rfl⟩,Below.refl _ _⟩
 case round =>
  obtain ⟨k,A1,c1,rfl,rfl,hk,hT,hb⟩:=hrel
  by_cases hlt:k<N
  .have hk1:(0:Int)<=(k:Int):=by omega
   have hk2:(k:Int)<(N:Int):=by omega
   have hk3:(k:Int)+1<=9223372036854775807:=by omega
   have hkn:k<ns.length:=by have:=HNN.out;omega
   obtain ⟨b,o,rfl,hc⟩:=H.out k hkn;have hbn:=HN.out _ (List.getElem_mem hkn);have hfk:Hid (f k=((ns[k]:Int):Rat)):=by show _=_;rw[hf.out];simp[ratsOf,List.getD,hkn]
   have cc:=(hb.cell (p:=⟨b,o+k,none⟩) (World.block_lt_of_cell? w _ hc)).trans hc;generalize ns[k]=n at hbn hfk cc;have HB:=Hd hb;have HLT:=Hd hlt;have HBN:=Hd hbn;clear hc hb hkn hbn hlt
   go_wp2_with fail
   refine (rint_q n HBN.out.1 HBN.out.2 wr).mono ?_;rintro e V ⟨x1,x2,x3,x4,rfl,q,bb⟩;have bb2:Below V.heap.size V (V.alloc (.cells #[x1,x2,x3,x4] 32)):=bRR;have c5:=(Hp.new V #[x1,x2,x3,x4] 32).four;have hB1:=HB.out.trans (bb.mono HB.out.size);have hB2:=Bxb hB1 bb2;obtain ⟨v',X,hrun,hT2,hbel⟩:=qapp ((hT.out.to bb).to bb2) hB2.size (by have:=HL.out;have:=HLT.out;omega) (e:=⟨x1,x2,x3,x4⟩) q.fq (by rw[hfk.out];exact q.to bb2) (a:=⟨V.heap.size,0,none⟩) (c:=1) c5.c0 c5.c1 c5.c2 c5.c3 38;obtain ⟨A2,c2,rfl⟩:=hT2.sl;have HRUN:=Hd hrun;have HE:Hid (TotV X (.slice A2 (k+1) c2) (k+1) f w.heap.size/\Below w.heap.size w X):=⟨hT2,hB2.trans hbel⟩
   clear bb2 c5 hbel hrun bb q hT2 hB1 hB2
   go_wp2_with (at_builtin;refine wpList_append_run rfl (.tmp 11) (.tmp 17) 38 rfl (by rfl) (by rfl) HRUN.out ?_;clear HRUN)
   go_roundw
   case rel=>exact ⟨k+1,A2,c2,rfl,by simp,HLT.out,HE.out.1,HE.out.2⟩
   case measure=>have:=HLT.out;simp[intOf];omega
  .obtain rfl:k=N:=by omega
   have HT:=hT;have HB:=Hd hb;clear hT hb hlt;go_wp2
   go_ret
   have h1:=HT.out;have h2:(ratsOf ns).length=k:=by rw[ratsOf_length,HNN.out]
   rw[hf.out]at h1;subst h2;exact h1.vr (by have:=HL.out;omega) HB.out
def unitQ (n k:Int):List Rat:=(List.range (min n.toNat 65536)).map fun i:Nat=>if (i:Int)=k then (1:Rat) else 0
theorem is3_len {w:World}{A A':Option Addr}{l l' c c':Nat}(hl:l≠l') :
  Calls Tryz.prog 37 #[.slice A l c,.slice A' l' c'] w fun e w'=>e=.returned (.bool false)/\Below w.heap.size w w':=by
 have h1:((l:Int) != (l':Int))=true:=by rw[bne_iff_ne];omega
 clear hl
 go_enter Tryz.func37,Tryz.ntmps37
 go_wp2
 go_ret
 exact ⟨rfl,Below.refl _ _⟩
theorem is3_f {b:Nat->Bool}{w:World}{A A':Option Addr}{c c' L:Nat}{es fs:List E4}(hx:Rq w w.heap.size A es)(hy:Rq w w.heap.size A' fs)(h1:es.length=L)(h2:fs.length=L)(hL:L<=4398046511104)
  (hF:∀(V:World),Below w.heap.size w V->∀i,i<L->Calls Tryz.prog 15 #[(es.getD i E4.z).v,(fs.getD i E4.z).v] V fun e w'=>e=.returned (.bool (b i))/\Below V.heap.size V w') {r:Bool} (hr:(List.range L).all b=r) :
  Calls Tryz.prog 37 #[.slice A L c,.slice A' L c'] w fun e w'=>e=.returned (.bool r)/\Below w.heap.size w w':=by
 have RX:=Hd hx;have RY:=Hd hy;have H1:=Hd h1;have H2:=Hd h2;have HF:=Hd hF;have HR:=Hd hr;have hne:((L:Int) != (L:Int))=false:=by simp
 clear hx hy h1 h2 hF hr
 go_enter Tryz.func37,Tryz.ntmps37
 go_wp2
 go_loopw [5] (fun i wr=>∃k:Nat,i=.int .i64 k/\k<=L/\(∀j,j<k->b j=true)/\Below w.heap.size w wr) (fun i _=>L-(intOf i).toNat)
 case atStart=>exact ⟨0,rfl,Nat.zero_le _,(fun j hj=>by omega),Below.refl _ _⟩
 case round =>
  obtain ⟨k,rfl,hk,ht,hb⟩:=hrel;have HT:=Hd ht;have HB:=Hd hb;clear ht hb
  by_cases hlt:k<L
  .have hki:(0:Int)<=(k:Int):=by omega
   have hki':(k:Int)<(L:Int):=by omega
   have hkx:k<es.length:=by have:=H1.out;omega
   have hky:k<fs.length:=by have:=H2.out;omega
   have HC:=Hd (fun (V:World) (hV:Below w.heap.size w V)=>HF.out V hV k hlt);obtain ⟨b1,o1,rfl,hb1,f0,f1,f2,f3⟩:=RX.out k hkx;obtain ⟨b2,o2,rfl,hb2,g0,g1,g2,g3⟩:=RY.out k hky;rw[getD_at' hkx,getD_at' hky]at HC
   have FX:Hid (∀w',Below w.heap.size w w'->w'.cell? ⟨b1,o1+k*4,none⟩=some es[k].a/\w'.cell? ⟨b1,o1+k*4+1,none⟩=some es[k].b/\w'.cell? ⟨b1,o1+k*4+2,none⟩=some es[k].c/\w'.cell? ⟨b1,o1+k*4+3,none⟩=some es[k].d):=fun w' hS =>
    ⟨(hS.cell (p:=⟨b1,_,none⟩) hb1).trans f0,(hS.cell (p:=⟨b1,_,none⟩) hb1).trans f1,(hS.cell (p:=⟨b1,_,none⟩) hb1).trans f2,(hS.cell (p:=⟨b1,_,none⟩) hb1).trans f3⟩
   have FY:Hid (∀w',Below w.heap.size w w'->w'.cell? ⟨b2,o2+k*4,none⟩=some fs[k].a/\w'.cell? ⟨b2,o2+k*4+1,none⟩=some fs[k].b/\w'.cell? ⟨b2,o2+k*4+2,none⟩=some fs[k].c/\w'.cell? ⟨b2,o2+k*4+3,none⟩=some fs[k].d):=fun w' hS =>
    ⟨(hS.cell (p:=⟨b2,_,none⟩) hb2).trans g0,(hS.cell (p:=⟨b2,_,none⟩) hb2).trans g1,(hS.cell (p:=⟨b2,_,none⟩) hb2).trans g2,(hS.cell (p:=⟨b2,_,none⟩) hb2).trans g3⟩
   generalize es[k]=X at FX HC;generalize fs[k]=Y at FY HC;obtain ⟨x1,x2,x3,x4⟩:=X;obtain ⟨y1,y2,y3,y4⟩:=Y;simp only[E4.v]at HC;dsimp only at FX FY;have HLT:=Hd hlt;clear f0 f1 f2 f3 g0 g1 g2 g3 hb1 hb2 hkx hky HF RX RY hlt;obtain ⟨v,hv⟩:∃v,b k=v:=⟨_,rfl⟩
   rw[hv]at HC;have HV:=Hd hv;clear hv
   cases v with
   | true =>
    go_wp2_with fail
    refine wp_region_plan (S:=fun w'=>Below w.heap.size w w') [(0,true),(1,true),(2,true),(3,true),(4,true),(5,true),(6,true),(7,true),(8,false),(9,true)] (by kernel_rfl) (by kernel_rfl) HB.out.drew ?_;have hb:=HB.out.drew
    iterate 8 (refine plan_take (v:=?_) rfl (by rfl) ?_ ?_;rotate_left;(focus (intro w' hS;obtain ⟨f0,f1,f2,f3⟩:=FX.out w' hS;obtain ⟨g0,g1,g2,g3⟩:=FY.out w' hS;go_simp;try with_reducible rfl)))
    refine plan_call rfl (by rfl) (fun K hK=>?_);go_simp
    refine (HC.out _ hb).mono ?_;rintro e V ⟨rfl,bb⟩;replace hb:=Bxb hb bb;refine hK.out _ _ hb ?_;clear hK K bb;refine plan_take (v:=?_) rfl (by rfl) ?_ ?_;rotate_left;(focus (intro w' hS;obtain ⟨f0,f1,f2,f3⟩:=FX.out w' hS;obtain ⟨g0,g1,g2,g3⟩:=FY.out w' hS;go_simp;try with_reducible rfl));refine plan_done ?_;have HE:=Hd hb;clear hb HB;go_wp2
    go_roundw
    case rel =>
     refine ⟨k+1,by simp,HLT.out,fun j hj=>?_,HE.out⟩
     by_cases hjk:j=k
     .subst hjk;exact HV.out
     .exact HT.out j (by omega)
    case measure=>have:=HLT.out;simp[intOf];omega
   | false =>
    go_wp2_with fail
    refine wp_region_plan (S:=fun w'=>Below w.heap.size w w') [(0,true),(1,true),(2,true),(3,true),(4,true),(5,true),(6,true),(7,true),(8,false),(9,true)] (by kernel_rfl) (by kernel_rfl) HB.out.drew ?_;have hb:=HB.out.drew
    iterate 8 (refine plan_take (v:=?_) rfl (by rfl) ?_ ?_;rotate_left;(focus (intro w' hS;obtain ⟨f0,f1,f2,f3⟩:=FX.out w' hS;obtain ⟨g0,g1,g2,g3⟩:=FY.out w' hS;go_simp;try with_reducible rfl)))
    refine plan_call rfl (by rfl) (fun K hK=>?_);go_simp
    refine (HC.out _ hb).mono ?_;rintro e V ⟨rfl,bb⟩;replace hb:=Bxb hb bb;refine hK.out _ _ hb ?_;clear hK K bb;refine plan_take (v:=?_) rfl (by rfl) ?_ ?_;rotate_left;(focus (intro w' hS;obtain ⟨f0,f1,f2,f3⟩:=FX.out w' hS;obtain ⟨g0,g1,g2,g3⟩:=FY.out w' hS;go_simp;try with_reducible rfl));refine plan_done ?_;have HE:=Hd hb;clear hb HB;go_wp2
    go_ret
    refine ⟨?_,HE.out⟩
    rw[<-HR.out,show (List.range L).all b=false from by
     rw[List.all_eq_false]
     exact ⟨k,by simpa using HLT.out,by rw[HV.out];decide⟩]
    rfl
  .obtain rfl:k=L:=by omega
   go_wp2
   go_ret
   refine ⟨?_,HB.out⟩
   rw[<-HR.out,show (List.range k).all b=true from by
    rw[List.all_eq_true];intro x hx
    exact HT.out x (by simpa using hx)]
   rfl
theorem all_same {rs ss:List Rat}{L:Nat}(h1:rs.length=L)(h2:ss.length=L):(List.range L).all (fun i=>decide (rs.getD i 0=ss.getD i 0))=decide (rs=ss):=by
 rw[Bool.eq_iff_iff,List.all_eq_true,decide_eq_true_eq]
 constructor
 .intro h;refine List.ext_getElem (by omega) fun i hi hj=>?_
  have:=h i (by simp;omega);rw[decide_eq_true_eq,getD_lt hi,getD_lt hj]at this;exact this
 .rintro rfl x _;simp
theorem vis_v {w:World}{A A':Option Addr}{c c':Nat}{es fs:List E4}{rs ss:List Rat}(hA:Vc w A c es rs)(hB:Vc w A' c' fs ss)(hL:rs.length<=4398046511104){v:Bool}(hv:decide (rs=ss)=v) :
  Calls Tryz.prog 37 #[.slice A rs.length c,.slice A' ss.length c'] w fun e w'=>e=.returned (.bool v)/\Below w.heap.size w w':=by
 by_cases h:rs.length=ss.length
 .rw[<-h];exact is3_f (b:=fun i=>decide (rs.getD i 0=ss.getD i 0)) hA.row hB.row hA.len (by rw[hB.len,h]) hL (fun V hV i _=>is_q ((hA.el i).to hV) ((hB.el i).to hV) rfl) (by rw[all_same rfl h.symm];exact hv)
 .rw[<-hv,decide_eq_false (fun e=>h (by rw[e]))];exact is3_len h
structure Im (W:World)(P:Option Addr)(N:Nat)(ns:Nat->List Int):Prop where
 row:∀k,k<N->∃b o A c,P=some ⟨b,o,none⟩/\b<W.heap.size/\W.cell? ⟨b,o+k,none⟩=some (.slice A (ns k).length c)/\Rn W A (ns k)
 bd:∀k,k<N->∀n∈ns k,-9223372036854775808<=n/\n<=9223372036854775807
 le:∀k,k<N->(ns k).length+1<=1000000
def Rs (W:World)(P:Option Addr)(N:Nat)(rs:Nat->List Rat):Prop:=∀k,k<N->∃b o A c,P=some ⟨b,o,none⟩/\b<W.heap.size/\W.cell? ⟨b,o+k,none⟩=some (.slice A (rs k).length c)
theorem Mc.rs {W:World}{P:Option Addr}{N C:Nat}{rs:Nat->List Rat}(h:Mc W P N C rs):Rs W P N rs:=fun k hk=>by
 obtain ⟨b,o,A,c,es,e,h1,h2,h3⟩:=h.row k hk;exact ⟨b,o,A,c,e,h1,h2⟩
theorem Mi.rs {W:World}{P:Option Addr}{N C m:Nat}{rs:Nat->List Rat}(h:Mi W P N C rs m):Rs W P N rs:=fun k hk=>by
 obtain ⟨b,o,A,c,es,e,h1,h2,h3⟩:=h.row k hk;exact ⟨b,o,A,c,e,h1,h2⟩
theorem Rn.go {W V:World}{A:Option Addr}{ns:List Int}(h:Rn W A ns)(hb:Below W.heap.size W V):Rn V A ns:=fun k hk=>by
 obtain ⟨b,o,e,hc⟩:=h k hk;exact ⟨b,o,e,(hb.cell (p:=⟨b,o+k,none⟩) (World.block_lt_of_cell? W _ hc)).trans hc⟩
theorem Im.to {W V:World}{P:Option Addr}{N:Nat}{ns:Nat->List Int}(h:Im W P N ns)(hb:Below W.heap.size W V):Im V P N ns :=
 ⟨fun k hk=>by
  obtain ⟨b,o,A,c,e,h1,h2,h3⟩:=h.row k hk
  exact ⟨b,o,A,c,e,Nat.lt_of_lt_of_le h1 hb.size,(hb.cell (p:=⟨b,_,none⟩) h1).trans h2,h3.go hb⟩,h.bd,h.le⟩
theorem rints4_m {w:World}{P:Option Addr}{N C:Nat}{ns:Nat->List Int}(h:Im w P N ns)(hl:N+1<=1000000) :
  Calls Tryz.prog 42 #[.slice P N C] w (MR w N (fun k=>ratsOf (ns k))):=by
 have HL:=Hd hl;have HI:=Hd (fun (V:World) (hV:Below w.heap.size w V) k (hk:k<N) {A:Option Addr} {c:Nat} (hA:Rn V A (ns k))=>rints_v (c:=c) hA (h.bd k hk) (h.le k hk));have HR:=Hd (fun (V:World) (hV:Below w.heap.size w V)=>(h.to hV).row);obtain ⟨rs,hrs⟩:∃rs:Nat->List Rat,rs=fun k=>ratsOf (ns k):=⟨_,rfl⟩
 have hrk:∀k,ratsOf (ns k)=rs k:=fun k=>by rw[hrs]
 simp only[hrk]at HI;rw[<-hrs];have HRL:Hid (∀k,(rs k).length=(ns k).length):=fun k=>by rw[<-hrk,ratsOf_length]
 clear h hrs hrk
 go_enter Tryz.func42,Tryz.ntmps42
 go_wp2
 go_loopw [3,4] (fun v i wr=>∃(k:Nat) (A1:Option Addr) (c1:Nat),v=.slice A1 k c1/\i=.int .i64 k/\k<=N/\Hid (TotS (Vs rs) wr (.slice A1 k c1) k w.heap.size)/\Below w.heap.size w wr) (fun _ i _=>N-(intOf i).toNat)
 case atStart=>exact ⟨0,none,0,rfl,rfl,Nat.zero_le _,.inl ⟨rfl,rfl⟩,Below.refl _ _⟩
 case round =>
  obtain ⟨k,A1,c1,rfl,rfl,hk,hT,hb⟩:=hrel
  by_cases hlt:k<N
  .have hk1:(0:Int)<=(k:Int):=by omega
   have hk2:(k:Int)<(N:Int):=by omega
   have hk3:(k:Int)+1<=9223372036854775807:=by have:=HL.out;omega
   obtain ⟨b,o,A,c,rfl,hb1,cc,hA⟩:=HR.out wr hb k hlt;have HC:=Hd (HI.out wr hb k hlt (c:=c) hA);clear hA hb1;have HB:=Hd hb;have HLT:=Hd hlt;clear hb hlt hk
   go_wp2_with fail
   refine (HC.out).mono ?_;rintro e V ⟨A2,c2,fl2,rfl,hv,bb⟩;have bb2:Below V.heap.size V (V.alloc (.cells #[.slice A2 (rs k).length c2] 38)):=bRR;have c5:=(Hp.new V #[.slice A2 (rs k).length c2] 38).one;have hB1:=HB.out.trans (bb.mono HB.out.size);have hB2:=Bxb hB1 bb2;obtain ⟨v',X,hrun,hT2,hbel⟩:=sapp (Vs.kept rs) ((hT.out.mv (Vs.kept rs) bb).mv (Vs.kept rs) bb2) hB2.size (by have:=HL.out;have:=HLT.out;omega) ⟨_,_,_,rfl⟩ ⟨A2,c2,fl2,rfl,hv.to bb2⟩ (a:=⟨V.heap.size,0,none⟩) (c:=1) c5 22;obtain ⟨A3,c3,rfl⟩:=hT2.sl;have HRUN:=Hd hrun;have HE:Hid (TotS (Vs rs) X (.slice A3 (k+1) c3) (k+1) w.heap.size/\Below w.heap.size w X):=⟨hT2,hB2.trans hbel⟩
   clear bb2 c5 hbel hrun bb hv hT2 hB1 hB2
   go_wp2_with (at_builtin;refine wpList_append_run rfl (.tmp 11) (.tmp 17) 22 rfl (by rfl) (by rfl) HRUN.out ?_;clear HRUN)
   go_roundw
   case rel=>exact ⟨k+1,A3,c3,rfl,by simp,HLT.out,HE.out.1,HE.out.2⟩
   case measure=>have:=HLT.out;simp[intOf];omega
  .obtain rfl:k=N:=by omega
   have HT:=hT;have HB:=Hd hb;clear hT hb hlt hk;go_wp2
   go_ret
   exact ⟨A1,c1,rfl,HT.out.mc,HB.out⟩
theorem is4_t {w:World}{P Q:Option Addr}{N C D:Nat}{rs ss:Nat->List Rat}(hx:Mc w P N C rs)(hy:Mc w Q N D ss)(he:∀k,k<N->rs k=ss k)(hl:∀k,k<N->(rs k).length<=4398046511104) :
  Calls Tryz.prog 20 #[.slice P N C,.slice Q N D] w fun e w'=>e=.returned (.bool true)/\Below w.heap.size w w':=by
 have RX:=Hd hx.row;have RY:=Hd hy.row;have HN:=Hd (hx.n63);have HE:=Hd he;have HL:=Hd hl;have hne:((N:Int) != (N:Int))=false:=by simp
 clear hx hy he hl
 go_enter Tryz.func20,Tryz.ntmps20
 go_wp2
 go_loopw [5] (fun i wr=>∃k:Nat,i=.int .i64 k/\k<=N/\Below w.heap.size w wr) (fun i _=>N-(intOf i).toNat)
 case atStart=>exact ⟨0,rfl,Nat.zero_le _,Below.refl _ _⟩
 case round =>
  obtain ⟨k,rfl,hk,hb⟩:=hrel
  by_cases hlt:k<N
  .have hk1:(0:Int)<=(k:Int):=by omega
   have hk2:(k:Int)<(N:Int):=by omega
   have hk3:(k:Int)+1<=9223372036854775807:=by have:=HN.out;omega
   obtain ⟨b1,o1,A1,c1,es1,rfl,hb1,f1,v1⟩:=RX.out k hlt;obtain ⟨b2,o2,A2,c2,es2,rfl,hb2,f2,v2⟩:=RY.out k hlt;have HC:=Hd (fun (V:World) (hV:Below w.heap.size w V)=>vis_v (v1.to hV) (v2.to hV) (HL.out k hlt) (decide_eq_true (HE.out k hlt)));have F1:Hid (∀V,Below w.heap.size w V->V.cell? ⟨b1,o1+k,none⟩=some (.slice A1 (rs k).length c1)):=fun V hV=>(hV.cell (p:=⟨b1,_,none⟩) hb1).trans f1
   have F2:Hid (∀V,Below w.heap.size w V->V.cell? ⟨b2,o2+k,none⟩=some (.slice A2 (ss k).length c2)):=fun V hV=>(hV.cell (p:=⟨b2,_,none⟩) hb2).trans f2
   have HB:=Hd hb;have HLT:=Hd hlt;clear v1 v2 hb1 hb2 hb hlt hk RX RY HE HL f1 f2
   go_wp2_with fail
   refine wp_region_plan (S:=fun w'=>Below w.heap.size w w') [(0,true),(1,true),(2,true),(3,true),(4,true),(5,true),(6,true),(7,true),(8,false),(9,true)] (by kernel_rfl) (by kernel_rfl) HB.out.drew ?_;have hb:=HB.out.drew
   iterate 3 (refine plan_take (v:=?_) rfl (by rfl) ?_ ?_;rotate_left;(focus (intro w' _;go_simp;try with_reducible rfl));simp only[Act.put,pqA,pqB,pqC])
   refine plan_take (v:=?_) rfl (by rfl) ?_ ?_;rotate_left;(focus (intro w' hS;have f1:=F1.out w' hS;go_simp;try with_reducible rfl));simp only[Act.put,pqA,pqB,pqC]
   iterate 3 (refine plan_take (v:=?_) rfl (by rfl) ?_ ?_;rotate_left;(focus (intro w' _;go_simp;try with_reducible rfl));simp only[Act.put,pqA,pqB,pqC])
   refine plan_take (v:=?_) rfl (by rfl) ?_ ?_;rotate_left;(focus (intro w' hS;have f2:=F2.out w' hS;go_simp;try with_reducible rfl));simp only[Act.put,pqA,pqB,pqC];refine plan_call rfl (by rfl) (fun K hK=>?_);go_simp
   refine (HC.out _ hb).mono ?_;rintro e V ⟨rfl,bb⟩;replace hb:=Bxb hb bb;refine hK.out _ _ hb ?_;clear hK K bb;refine plan_take (v:=?_) rfl (by rfl) ?_ ?_;rotate_left;(focus (intro w' _;go_simp;try with_reducible rfl));simp only[Act.put,pqA,pqB,pqC];refine plan_done ?_;have HB2:=Hd hb;clear hb HC F1 F2 HB;go_wp2
   go_roundw
   case rel=>exact ⟨k+1,by simp,HLT.out,HB2.out⟩
   case measure=>have:=HLT.out;simp[intOf];omega
  .obtain rfl:k=N:=by omega
   have HB:=Hd hb;clear hb hlt hk RX RY HE HL;go_wp2
   go_ret
   exact ⟨rfl,HB.out⟩
theorem rcols_m {w:World}{P:Option Addr}{N C:Nat}{rs:Nat->List Rat}(hx:Rs w P N rs)(hN:N<=9223372036854775806)(hl:∀k,k<N->(rs k).length<=9223372036854775807) :
  Calls Tryz.prog 14 #[.slice P N C] w fun e w'=>e=.returned (.int .i64 (colsN rs N))/\Below w.heap.size w w':=by
 have RX:=Hd hx;have HN:=Hd hN;have HL:=Hd hl;have HM:=Hd (fun k (hk:k<=N)=>colsN_le (rs:=rs) (M:=9223372036854775807) (N:=k) (fun j hj=>hl j (by omega)));clear hx hl hN
 go_enter Tryz.func14,Tryz.ntmps14
 go_wp2
 go_loopw [3,4] (fun v i wr=>∃k:Nat,v=.int .i64 (colsN rs k:Nat)/\i=.int .i64 k/\k<=N/\Below w.heap.size w wr) (fun _ i _=>N-(intOf i).toNat)
 case atStart=>exact ⟨0,rfl,rfl,Nat.zero_le _,Below.refl _ _⟩
 case round =>
  obtain ⟨k,rfl,rfl,hk,hb⟩:=hrel
  by_cases hlt:k<N
  .have hk1:(0:Int)<=(k:Int):=by omega
   have hk2:(k:Int)<(N:Int):=by omega
   have hk3:(k:Int)+1<=9223372036854775807:=by have:=HN.out;omega
   obtain ⟨b,o,A,c,rfl,hb1,f1⟩:=RX.out k hlt;replace f1:=(hb.cell (p:=⟨b,_,none⟩) hb1).trans f1;have e1:colsN rs (k+1)=max (colsN rs k) (rs k).length:=rfl;have h1:=HM.out k (by omega);have h2:=HL.out k hlt;have HLT:=Hd hlt;have HB:=Hd hb;clear hlt hb hk hb1;obtain ⟨x,hx⟩:∃x,colsN rs (k+1)=x:=⟨_,rfl⟩
   have HX:=Hd hx;rw[hx]at e1;clear hx;generalize colsN rs k=y at e1 h1 ⊢;generalize (rs k).length=z at e1 f1 h2;have e3:(max (y:Int) (z:Int))=(x:Int):=by omega
   clear e1 h1 h2;go_wp2
   go_roundw
   case rel=>exact ⟨k+1,by rw[HX.out],by simp,HLT.out,HB.out⟩
   case measure=>have:=HLT.out;simp[intOf];omega
  .obtain rfl:k=N:=by omega
   have HB:=Hd hb;clear hb hlt hk RX HL HM;go_wp2
   go_ret
   exact ⟨rfl,HB.out⟩
theorem cols_m {w:World}{P:Option Addr}{N C:Nat}{rs:Nat->List Rat}(hx:Rs w P N rs)(hN:N<=9223372036854775806)(hl:∀k,k<N->(rs k).length<=9223372036854775807) :
  Calls Tryz.prog 13 #[.slice P N C] w fun e w'=>e=.returned (.int .i64 (colsN rs N))/\Below w.heap.size w w':=by
 have RX:=Hd hx;have HN:=Hd hN;have HL:=Hd hl;have HM:=Hd (fun k (hk:k<=N)=>colsN_le (rs:=rs) (M:=9223372036854775807) (N:=k) (fun j hj=>hl j (by omega)));clear hx hl hN
 go_enter Tryz.func13,Tryz.ntmps13
 go_wp2
 go_loopw [3,8] (fun v i wr=>∃k:Nat,v=.int .i64 (colsN rs k:Nat)/\i=.int .i64 k/\k<=N/\Below w.heap.size w wr) (fun _ i _=>N-(intOf i).toNat)
 case atStart=>exact ⟨0,rfl,rfl,Nat.zero_le _,Below.refl _ _⟩
 case round =>
  obtain ⟨k,rfl,rfl,hk,hb⟩:=hrel
  by_cases hlt:k<N
  .have hk1:(0:Int)<=(k:Int):=by omega
   have hk2:(k:Int)<(N:Int):=by omega
   have hk3:(k:Int)+1<=9223372036854775807:=by have:=HN.out;omega
   obtain ⟨b,o,A,c,rfl,hb1,f1⟩:=RX.out k hlt;replace f1:=(hb.cell (p:=⟨b,_,none⟩) hb1).trans f1;have e1:colsN rs (k+1)=max (colsN rs k) (rs k).length:=rfl;have h1:=HM.out k (by omega);have h2:=HL.out k hlt;have HLT:=Hd hlt;have HB:=Hd hb;clear hlt hb hk hb1;obtain ⟨x,hx⟩:∃x,colsN rs (k+1)=x:=⟨_,rfl⟩
   have HX:=Hd hx;rw[hx]at e1;clear hx;generalize colsN rs k=y at e1 h1 ⊢;generalize (rs k).length=z at e1 f1 h2;have e3:(max (y:Int) (z:Int))=(x:Int):=by omega
   clear e1 h1 h2;go_wp2
   go_roundw
   case rel=>exact ⟨k+1,by rw[HX.out],by simp,HLT.out,HB.out⟩
   case measure=>have:=HLT.out;simp[intOf];omega
  .obtain rfl:k=N:=by omega
   have HB:=Hd hb;clear hb hlt hk RX HL HM;go_wp2
   go_ret
   exact ⟨rfl,HB.out⟩
end Go.Proofs.YtglhdielkkhefaaGreat

namespace Go.Proofs.YtglhdielkkhefaaGreat
open Go.ChangeShapes Go.WideShapes Go.ChangeAt Go.RowKit Go.Joins
theorem cellsZ : Tryz.prog.cellsOf 30=2:=by kernel_rfl
theorem cellsU : Tryz.prog.cellsOf 89=1:=by kernel_rfl
theorem laidOut : laidOutB Tryz.prog=true:=by kernel_rfl
theorem own : ownKnob Tryz.prog.godebug=none:=by kernel_rfl
theorem nats_of {zs:List Int}(h:∀n∈zs,(Lit.int .u32 n).wf=true):∃xs:List Nat,zs=xs.map (fun n:Nat=>(n:Int))/\Dg b32 xs:=by
 induction zs with
 | nil=>exact ⟨[],rfl,fun d hd=>by cases hd⟩
 | cons z zs ih =>
  obtain ⟨xs,rfl,hx⟩:=ih (fun n hn=>h n (List.mem_cons_of_mem _ hn));have hz:=h z List.mem_cons_self;have hz':=bounds_u32 hz;exact ⟨z.toNat::xs,by simp;omega,Dg.cons (by unfold b32;omega) hx⟩
theorem cellsB : Tryz.prog.cellsOf 4=1:=by kernel_rfl
theorem cellsS : Tryz.prog.cellsOf 28=1:=by kernel_rfl
theorem cellsQ : Tryz.prog.cellsOf 32=4:=by kernel_rfl
def Zx2 (W:World)(x y:Value):Prop:=∃n A c xs,x=.bool n/\y=.slice A xs.length c/\Rd .u32 W W.heap.size A xs/\Dg b32 xs/\xs.length<=c/\c<=9223372036854775807
theorem trod_z {H:Type}{enc:TypeId×Value->H}{W:World}{base:Nat}{spare:Nat->Bool}{held:Bool}{fuel:Nat}{c0 c1:Value}{x:DataW H×List MemPlace}
  (hs:∀b,spare b=true) (h:DataW.trod enc Tryz.prog W base spare held fuel 30 [c0,c1]=some x):Zx2 W c0 c1:=by
 obtain ⟨y0,y1,m,hx,_,h0,h1⟩:=trod_struct2 (f0:=_) (f1:=_) (show Tryz.prog.underlying 30=_ from Tryz.underlying30) h
 replace h0:DataW.trod enc Tryz.prog W base spare held m 4 [c0]=some y0:=by
  rw[show Tryz.prog.cellsOf _=1 from cellsB]at h0
  simpa using h0
 replace h1:DataW.trod enc Tryz.prog W base spare held m 28 [c1]=some y1:=by
  rw[show Tryz.prog.cellsOf _=1 from cellsS]at h1
  simpa using h1
 obtain ⟨n,hc0,_⟩:=DataW.trod_bool Tryz.underlying4 h0;obtain rfl:c0=.bool n:=by simpa using hc0
 rcases open_ints Tryz.underlying28 Tryz.underlying89 cellsU h1 with ⟨hcs,_⟩|⟨x,l,c,zs,hcs,_,hl,hm,hz,_,hcell,hwz⟩
 .obtain rfl:c1=.slice none 0 0:=by simpa using hcs
  exact ⟨n,none,0,[],rfl,rfl,Rd.nil,Dg.nil,Nat.le_refl _,by decide⟩
 .obtain rfl:c1=.slice (some x) l c:=by simpa using hcs
  rw[hs,if_pos rfl]at hz;obtain ⟨xs,rfl,hx⟩:=nats_of hwz;rw[List.length_map]at hz;have hlen:(xs.take l).length=l:=by rw[List.length_take];omega
  refine ⟨n,some x,c,xs.take l,rfl,by rw[hlen],?_,hx.take l,by rw[hlen];exact hl,Nat.le_trans hm (by decide)⟩;intro k hk;rw[hlen]at hk;obtain ⟨b,off,rfl,hc⟩:=Go.ints_at hcell (by rw[List.length_map];omega);have hck:=hc k (by rw[List.length_map];omega);refine ⟨b,off,rfl,World.block_lt_of_cell? W _ hck,?_⟩;rw[hck];have hk':k<xs.length:=by omega
  simp[hk']
theorem array4 {α:Type}{cs:Array α}(h:cs.size=4):∃c0 c1 c2 c3,cs=#[c0,c1,c2,c3]:=by
 obtain ⟨l⟩:=cs
 match l,h with
 | [c0,c1,c2,c3],_=>exact ⟨c0,c1,c2,c3,rfl⟩
theorem trod_q {H:Type}{enc:TypeId×Value->H}{W:World}{base:Nat}{spare:Nat->Bool}{held:Bool}{fuel:Nat}{c0 c1 c2 c3:Value}{x:DataW H×List MemPlace}
  (hs:∀b,spare b=true) (h:DataW.trod enc Tryz.prog W base spare held fuel 32 [c0,c1,c2,c3]=some x):Zx2 W c0 c1/\Zx2 W c2 c3:=by
 obtain ⟨y0,y1,m,hx,_,h0,h1⟩:=trod_struct2 (f0:=_) (f1:=_) (show Tryz.prog.underlying 32=_ from Tryz.underlying32) h
 replace h0:DataW.trod enc Tryz.prog W base spare held m 30 [c0,c1]=some y0:=by
  rw[show Tryz.prog.cellsOf _=2 from cellsZ]at h0
  simpa using h0
 replace h1:DataW.trod enc Tryz.prog W base spare held m 30 [c2,c3]=some y1:=by
  rw[show Tryz.prog.cellsOf _=2 from cellsZ]at h1
  simpa using h1
 exact ⟨trod_z hs h0,trod_z hs h1⟩
theorem open_q {H:Type}{enc:TypeId×Value->H}{W:World}{base:Nat}{spare:Nat->Bool}{held:Bool}{r:Reach}{b0:Nat}{v:Value}{d:DataW H}{p:List MemPlace}
  (hs:∀b,spare b=true) (hv:Value.okWide Tryz.prog W r b0 32 v) (h:DataW.Trod enc Tryz.prog W base spare held 32 v d p) :
  ∃c0 c1 c2 c3,v=.agg #[c0,c1,c2,c3]/\Zx2 W c0 c1/\Zx2 W c2 c3:=by
 obtain ⟨cs,rfl,hsz⟩:=okWide_struct Tryz.underlying32 hv;obtain ⟨c0,c1,c2,c3,rfl⟩:=array4 (hsz.trans cellsQ);obtain ⟨fuel,hf⟩:=h;exact ⟨c0,c1,c2,c3,rfl,trod_q hs hf⟩
end Go.Proofs.YtglhdielkkhefaaGreat

namespace Go.Proofs.YtglhdielkkhefaaGreat
open Go.RowKit Go.Shelf
theorem flong_o (g o:Nat)(A:Option Addr)(ls:List (Nat×Nat))(cap:Nat)(w:World)(hA:∀(k:Nat),k<ls.length->A=some ⟨g,o,none⟩/\g<w.heap.size)
  (h:∀(k:Nat) (hk:k<ls.length),∃n1 A1 c1 n2 A2 c2,w.cell? ⟨g,o+k*4,none⟩=some (.bool n1)/\w.cell? ⟨g,o+k*4+1,none⟩=some (.slice A1 ls[k].1 c1)/\w.cell? ⟨g,o+k*4+2,none⟩=some (.bool n2)/\w.cell? ⟨g,o+k*4+3,none⟩=some (.slice A2 ls[k].2 c2))
  (hs:∀(k:Nat) (hk:k<ls.length),ls[k].1<=9223372036854775807/\ls[k].2<=9223372036854775807) (hl:ls.length<=1000) {r:Bool} (hr:(ls.any fun p=>decide (6<p.1)||decide (6<p.2))=r) :
  Calls Tryz.prog 28 #[.slice A ls.length cap] w fun e w'=>e=.returned (.bool r)/\Below w.heap.size w w':=by
 have H:=Hd h;have HS:=Hd hs;have HA:=Hd hA;have HR:=Hd hr;clear h hs hA hr
 go_enter Tryz.func28,Tryz.ntmps28
 go_wp2
 go_loopw [3] (fun i wr=>∃k:Nat,i=.int .i64 k/\k<=ls.length/\(∀j (hj:j<ls.length),j<k->ls[j].1<=6/\ls[j].2<=6)/\Below w.heap.size w wr) (fun i _=>ls.length-(intOf i).toNat)
 case atStart=>exact ⟨0,rfl,Nat.zero_le _,(fun j _ hj=>by omega),Below.refl _ _⟩
 case round =>
  obtain ⟨k,rfl,hk,ht,hb⟩:=hrel;have HT:=Hd ht;have HB:=Hd hb;clear ht hb
  by_cases hlt:k<ls.length
  .obtain ⟨rfl,hg⟩:=HA.out k hlt;have HG:=Hd hg;clear hg;have hc:=H.out k hlt;have hm:=HS.out k hlt;have hki:(0:Int)<=(k:Int):=by omega
   have hki':(k:Int)<(ls.length:Int):=by omega
   have HN:Hid (ls[k]=ls[k]):=rfl;obtain ⟨⟨m1,m2⟩,hn⟩:∃m,ls[k]=m:=⟨_,rfl⟩
   rw[hn]at hc hm;have HN2:=Hd hn;obtain ⟨n1,A1,c1,n2,A2,c2,hc⟩:=hc
   have HF:Hid (∀w',Below w.heap.size w w'->w'.cell? ⟨g,o+k*4,none⟩=some (.bool n1)/\w'.cell? ⟨g,o+k*4+1,none⟩=some (.slice A1 m1 c1)/\w'.cell? ⟨g,o+k*4+2,none⟩=some (.bool n2)/\w'.cell? ⟨g,o+k*4+3,none⟩=some (.slice A2 m2 c2)):=fun w' hS =>
    ⟨(hS.cell (p:=⟨g,o+k*4,none⟩) HG.out).trans hc.1,(hS.cell (p:=⟨g,o+k*4+1,none⟩) HG.out).trans hc.2.1,(hS.cell (p:=⟨g,o+k*4+2,none⟩) HG.out).trans hc.2.2.1,(hS.cell (p:=⟨g,o+k*4+3,none⟩) HG.out).trans hc.2.2.2⟩
   have M1:=Hd hm.1;have M2:=Hd hm.2;clear hc hm hn HN
   by_cases ha:12<m1∨12<m2
   .have HL:Hid ([m1,m2].any (fun n=>decide (12<n))=true):=by show _=_;simpa using ha
    have hany:Hid ((ls.any fun p=>decide (6<p.1)||decide (6<p.2))=true):=by
     show _=_
     rw[List.any_eq_true];exact ⟨ls[k],List.getElem_mem hlt,by rw[HN2.out];simp;omega⟩
    clear ha
    go_wp2_with fail
    refine wp_region_plan (S:=fun w'=>Below w.heap.size w w') [(0,true),(1,true),(2,true),(3,true),(4,true),(5,true),(6,true),(7,true),(8,true),(9,true),(10,false),(11,false),(12,true),(13,true),(14,true),(15,true),(16,true),(17,true),(18,true),(19,true),(20,true),(21,true),(22,true),(23,true),(24,true),(25,true),(26,true),(27,true),(28,true),(29,true),(30,true),(31,true)] (by kernel_rfl) (by kernel_rfl) HB.out.drew ?_;have hb:=HB.out.drew
    iterate 10 (refine plan_take (v:=?_) rfl (by rfl) ?_ ?_;rotate_left;(focus (intro w' hS;obtain ⟨f0,f1,f2,f3⟩:=HF.out w' hS;go_simp;try with_reducible rfl));simp only[Act.put,pqA,pqB,pqC])
    refine plan_call rfl (by rfl) (fun K hK=>?_);go_simp
    have hnew:=(Four.new wr (.bool n1) (.slice A1 m1 c1) (.bool n2) (.slice A2 m2 c2) 30).to (Below.refl _ _).drew;replace hb:=hb.alloc hb.size (.cells #[.bool n1,.slice A1 m1 c1,.bool n2,.slice A2 m2 c2] 30);refine hK.out _ _ hb ?_;clear hK K;refine plan_call rfl (by rfl) (fun K hK=>?_);go_simp
    refine (long_2 M1.out M2.out hnew.c1 hnew.c3 HL.out).mono ?_;rintro e V ⟨rfl,rfl⟩;refine hK.out _ _ hb ?_;clear hK K hnew;refine plan_take (v:=?_) rfl (by rfl) ?_ ?_;rotate_left;(focus (intro w' hS;go_simp;try with_reducible rfl));simp only[Act.put,pqA,pqB,pqC]
    iterate 8 (refine plan_skip rfl (by rfl) ?_;simp only[Act.put,pqA,pqB,pqC])
    iterate 2 (refine plan_take (v:=?_) rfl (by rfl) ?_ ?_;rotate_left;(focus (intro w' hS;go_simp;try with_reducible rfl));simp only[Act.put,pqA,pqB,pqC])
    iterate 8 (refine plan_skip rfl (by rfl) ?_;simp only[Act.put,pqA,pqB,pqC])
    refine plan_take (v:=?_) rfl (by rfl) ?_ ?_;rotate_left;(focus (intro w' hS;go_simp;try with_reducible rfl));simp only[Act.put,pqA,pqB,pqC];refine plan_done ?_;have HE:=Hd hb;clear hb HB;go_wp2
    go_ret
    exact ⟨by rw[<-HR.out,hany.out];rfl,HE.out⟩
   .have HL:Hid ([m1,m2].any (fun n=>decide (12<n))=false):=by show _=_;simpa using ha
    by_cases hb6:6<m1
    .have hany:Hid ((ls.any fun p=>decide (6<p.1)||decide (6<p.2))=true):=by
      show _=_
      rw[List.any_eq_true];exact ⟨ls[k],List.getElem_mem hlt,by rw[HN2.out];simp;omega⟩
     clear ha;have d1:decide ((6:Int)<(m1:Int))=true:=by simp;omega
     clear hb6
     go_wp2_with fail
     refine wp_region_plan (S:=fun w'=>Below w.heap.size w w') [(0,true),(1,true),(2,true),(3,true),(4,true),(5,true),(6,true),(7,true),(8,true),(9,true),(10,false),(11,false),(12,true),(13,true),(14,true),(15,true),(16,true),(17,true),(18,true),(19,true),(20,true),(21,true),(22,true),(23,true),(24,true),(25,true),(26,true),(27,true),(28,true),(29,true),(30,true),(31,true)] (by kernel_rfl) (by kernel_rfl) HB.out.drew ?_;have hb:=HB.out.drew
     iterate 10 (refine plan_take (v:=?_) rfl (by rfl) ?_ ?_;rotate_left;(focus (intro w' hS;obtain ⟨f0,f1,f2,f3⟩:=HF.out w' hS;go_simp;try with_reducible rfl));simp only[Act.put,pqA,pqB,pqC])
     refine plan_call rfl (by rfl) (fun K hK=>?_);go_simp
     have hnew:=(Four.new wr (.bool n1) (.slice A1 m1 c1) (.bool n2) (.slice A2 m2 c2) 30).to (Below.refl _ _).drew;replace hb:=hb.alloc hb.size (.cells #[.bool n1,.slice A1 m1 c1,.bool n2,.slice A2 m2 c2] 30);refine hK.out _ _ hb ?_;clear hK K;refine plan_call rfl (by rfl) (fun K hK=>?_);go_simp
     refine (long_2 M1.out M2.out hnew.c1 hnew.c3 HL.out).mono ?_;rintro e V ⟨rfl,rfl⟩;refine hK.out _ _ hb ?_;clear hK K hnew
     iterate 3 (refine plan_take (v:=?_) rfl (by rfl) ?_ ?_;rotate_left;(focus (intro w' hS;go_simp;try with_reducible rfl));simp only[Act.put,pqA,pqB,pqC])
     iterate 4 (refine plan_take (v:=?_) rfl (by rfl) ?_ ?_;rotate_left;(focus (intro w' hS;obtain ⟨f0,f1,f2,f3⟩:=HF.out w' hS;go_simp;try with_reducible rfl));simp only[Act.put,pqA,pqB,pqC])
     iterate 4 (refine plan_take (v:=?_) rfl (by rfl) ?_ ?_;rotate_left;(focus (intro w' hS;go_simp;try with_reducible rfl));simp only[Act.put,pqA,pqB,pqC])
     iterate 8 (refine plan_skip rfl (by rfl) ?_;simp only[Act.put,pqA,pqB,pqC])
     refine plan_take (v:=?_) rfl (by rfl) ?_ ?_;rotate_left;(focus (intro w' hS;go_simp;try with_reducible rfl));simp only[Act.put,pqA,pqB,pqC];refine plan_done ?_;have HE:=Hd hb;clear hb HB;go_wp2
     go_ret
     exact ⟨by rw[<-HR.out,hany.out];rfl,HE.out⟩
    .by_cases hc6:6<m2
     .have hany:Hid ((ls.any fun p=>decide (6<p.1)||decide (6<p.2))=true):=by
       show _=_
       rw[List.any_eq_true];exact ⟨ls[k],List.getElem_mem hlt,by rw[HN2.out];simp;omega⟩
      clear ha;have d1:decide ((6:Int)<(m1:Int))=false:=by simp;omega
      have d2:decide ((6:Int)<(m2:Int))=true:=by simp;omega
      clear hb6 hc6
      go_wp2_with fail
      refine wp_region_plan (S:=fun w'=>Below w.heap.size w w') [(0,true),(1,true),(2,true),(3,true),(4,true),(5,true),(6,true),(7,true),(8,true),(9,true),(10,false),(11,false),(12,true),(13,true),(14,true),(15,true),(16,true),(17,true),(18,true),(19,true),(20,true),(21,true),(22,true),(23,true),(24,true),(25,true),(26,true),(27,true),(28,true),(29,true),(30,true),(31,true)] (by kernel_rfl) (by kernel_rfl) HB.out.drew ?_;have hb:=HB.out.drew
      iterate 10 (refine plan_take (v:=?_) rfl (by rfl) ?_ ?_;rotate_left;(focus (intro w' hS;obtain ⟨f0,f1,f2,f3⟩:=HF.out w' hS;go_simp;try with_reducible rfl));simp only[Act.put,pqA,pqB,pqC])
      refine plan_call rfl (by rfl) (fun K hK=>?_);go_simp
      have hnew:=(Four.new wr (.bool n1) (.slice A1 m1 c1) (.bool n2) (.slice A2 m2 c2) 30).to (Below.refl _ _).drew;replace hb:=hb.alloc hb.size (.cells #[.bool n1,.slice A1 m1 c1,.bool n2,.slice A2 m2 c2] 30);refine hK.out _ _ hb ?_;clear hK K;refine plan_call rfl (by rfl) (fun K hK=>?_);go_simp
      refine (long_2 M1.out M2.out hnew.c1 hnew.c3 HL.out).mono ?_;rintro e V ⟨rfl,rfl⟩;refine hK.out _ _ hb ?_;clear hK K hnew
      iterate 3 (refine plan_take (v:=?_) rfl (by rfl) ?_ ?_;rotate_left;(focus (intro w' hS;go_simp;try with_reducible rfl));simp only[Act.put,pqA,pqB,pqC])
      iterate 4 (refine plan_take (v:=?_) rfl (by rfl) ?_ ?_;rotate_left;(focus (intro w' hS;obtain ⟨f0,f1,f2,f3⟩:=HF.out w' hS;go_simp;try with_reducible rfl));simp only[Act.put,pqA,pqB,pqC])
      iterate 6 (refine plan_take (v:=?_) rfl (by rfl) ?_ ?_;rotate_left;(focus (intro w' hS;go_simp;try with_reducible rfl));simp only[Act.put,pqA,pqB,pqC])
      iterate 4 (refine plan_take (v:=?_) rfl (by rfl) ?_ ?_;rotate_left;(focus (intro w' hS;obtain ⟨f0,f1,f2,f3⟩:=HF.out w' hS;go_simp;try with_reducible rfl));simp only[Act.put,pqA,pqB,pqC])
      iterate 3 (refine plan_take (v:=?_) rfl (by rfl) ?_ ?_;rotate_left;(focus (intro w' hS;go_simp;try with_reducible rfl));simp only[Act.put,pqA,pqB,pqC])
      refine plan_done ?_;have HE:=Hd hb;clear hb HB;go_wp2
      go_ret
      exact ⟨by rw[<-HR.out,hany.out];rfl,HE.out⟩
     .have hok:Hid (m1<=6/\m2<=6):=by show _/\_;omega
      clear ha;have d1:decide ((6:Int)<(m1:Int))=false:=by simp;omega
      have d2:decide ((6:Int)<(m2:Int))=false:=by simp;omega
      clear hb6 hc6
      go_wp2_with fail
      refine wp_region_plan (S:=fun w'=>Below w.heap.size w w') [(0,true),(1,true),(2,true),(3,true),(4,true),(5,true),(6,true),(7,true),(8,true),(9,true),(10,false),(11,false),(12,true),(13,true),(14,true),(15,true),(16,true),(17,true),(18,true),(19,true),(20,true),(21,true),(22,true),(23,true),(24,true),(25,true),(26,true),(27,true),(28,true),(29,true),(30,true),(31,true)] (by kernel_rfl) (by kernel_rfl) HB.out.drew ?_;have hb:=HB.out.drew
      iterate 10 (refine plan_take (v:=?_) rfl (by rfl) ?_ ?_;rotate_left;(focus (intro w' hS;obtain ⟨f0,f1,f2,f3⟩:=HF.out w' hS;go_simp;try with_reducible rfl));simp only[Act.put,pqA,pqB,pqC])
      refine plan_call rfl (by rfl) (fun K hK=>?_);go_simp
      have hnew:=(Four.new wr (.bool n1) (.slice A1 m1 c1) (.bool n2) (.slice A2 m2 c2) 30).to (Below.refl _ _).drew;replace hb:=hb.alloc hb.size (.cells #[.bool n1,.slice A1 m1 c1,.bool n2,.slice A2 m2 c2] 30);refine hK.out _ _ hb ?_;clear hK K;refine plan_call rfl (by rfl) (fun K hK=>?_);go_simp
      refine (long_2 M1.out M2.out hnew.c1 hnew.c3 HL.out).mono ?_;rintro e V ⟨rfl,rfl⟩;refine hK.out _ _ hb ?_;clear hK K hnew
      iterate 3 (refine plan_take (v:=?_) rfl (by rfl) ?_ ?_;rotate_left;(focus (intro w' hS;go_simp;try with_reducible rfl));simp only[Act.put,pqA,pqB,pqC])
      iterate 4 (refine plan_take (v:=?_) rfl (by rfl) ?_ ?_;rotate_left;(focus (intro w' hS;obtain ⟨f0,f1,f2,f3⟩:=HF.out w' hS;go_simp;try with_reducible rfl));simp only[Act.put,pqA,pqB,pqC])
      iterate 6 (refine plan_take (v:=?_) rfl (by rfl) ?_ ?_;rotate_left;(focus (intro w' hS;go_simp;try with_reducible rfl));simp only[Act.put,pqA,pqB,pqC])
      iterate 4 (refine plan_take (v:=?_) rfl (by rfl) ?_ ?_;rotate_left;(focus (intro w' hS;obtain ⟨f0,f1,f2,f3⟩:=HF.out w' hS;go_simp;try with_reducible rfl));simp only[Act.put,pqA,pqB,pqC])
      iterate 3 (refine plan_take (v:=?_) rfl (by rfl) ?_ ?_;rotate_left;(focus (intro w' hS;go_simp;try with_reducible rfl));simp only[Act.put,pqA,pqB,pqC])
      refine plan_done ?_;have HE:=Hd hb;clear hb HB;go_wp2
      go_roundw
      case rel=>exact ⟨k+1,by simp,by omega,(fun j hj hjk=>by
       rcases Nat.lt_or_ge j k with h1|h1
       .exact HT.out j hj h1
       .obtain rfl:j=k:=by omega
        rw[HN2.out];exact hok.out),HE.out⟩
      case measure=>simp[intOf];omega
  .obtain rfl:k=ls.length:=by omega
   clear hlt;go_wp2
   go_ret
   refine ⟨?_,HB.out⟩
   have:(ls.any fun p=>decide (6<p.1)||decide (6<p.2))=false:=by
    rw[List.any_eq_false];intro x hx;obtain ⟨j,hj,rfl⟩:=List.getElem_of_mem hx;have:=HT.out j hj hj;simp;omega
   rw[<-HR.out,this];rfl
def ZxE (W:World)(e:E4):Prop:=Zx2 W e.a e.b/\Zx2 W e.c e.d
theorem Zx2.to {W V:World}{x y:Value}(h:Zx2 W x y)(hb:Below W.heap.size W V):Zx2 V x y:=by
 obtain ⟨n,A,c,xs,h1,h2,h3,h4⟩:=h;exact ⟨n,A,c,xs,h1,h2,h3.to hb,h4⟩
theorem ZxE.to {W V:World}{e:E4}(h:ZxE W e)(hb:Below W.heap.size W V):ZxE V e:=⟨h.1.to hb,h.2.to hb⟩
theorem ZxE.fq {W:World}{e:E4}(h:ZxE W e):e.fq:=by
 obtain ⟨⟨n,A,c,xs,h1,h2,_⟩,⟨m,B,d,ys,h3,h4,_⟩⟩:=h;exact ⟨⟨n,A,xs.length,c,h1,h2⟩,⟨m,B,ys.length,d,h3,h4⟩⟩
def vlen : Value->Nat
 | .slice _ n _=>n
 | _=>0
def lngE (e:E4):Bool:=decide (6<vlen e.b)||decide (6<vlen e.d)
def lngV (es:List E4):Bool:=decide (20<es.length)||es.any lngE
structure VA where
 A:Option Addr
 c:Nat
 es:List E4
structure VIn (W:World)(v:VA):Prop where
 row:Rq W W.heap.size v.A v.es
 el:∀e∈v.es,ZxE W e
 cap:v.es.length<=v.c
 c63:v.c<=9223372036854775807
theorem VIn.to {W V:World}{v:VA}(h:VIn W v)(hb:Below W.heap.size W V):VIn V v:=⟨h.row.to hb,fun e he=>(h.el e he).to hb,h.cap,h.c63⟩
theorem flong_v {w:World}{v:VA}(h:VIn w v)(hl:v.es.length<=1000){r:Bool}(hr:v.es.any lngE=r) :
  Calls Tryz.prog 28 #[.slice v.A v.es.length v.c] w fun e w'=>e=.returned (.bool r)/\Below w.heap.size w w':=by
 obtain ⟨A,c,es⟩:=v;obtain ⟨hrow,hel,hcap,hc63⟩:=h;dsimp only at hrow hel hcap hc63 hl hr ⊢
 have key:∃g o,∀k,k<es.length->A=some ⟨g,o,none⟩/\g<w.heap.size:=by
  by_cases h0:0<es.length
  .obtain ⟨b,o,rfl,hb,_⟩:=hrow 0 h0;exact ⟨b,o,fun k _=>⟨rfl,hb⟩⟩
  .exact ⟨0,0,fun k hk=>by omega⟩
 obtain ⟨g,o,key⟩:=key
 have h1:=flong_o g o A (es.map fun e=>(vlen e.b,vlen e.d)) c w (fun k hk=>key k (by simpa using hk)) (fun k hk=>by
  have hk':k<es.length:=by simpa using hk
  obtain ⟨b,o',e1,hb,c0,c1,c2,c3⟩:=hrow k hk';obtain ⟨e2,_⟩:=key k hk';rw[e1]at e2;simp only[Option.some.injEq,Addr.mk.injEq,and_true]at e2;obtain ⟨rfl,rfl⟩:=e2;obtain ⟨⟨n,A1,d1,xs,f1,f2,_⟩,⟨m,A2,d2,ys,f3,f4,_⟩⟩:=hel _ (List.getElem_mem hk');rw[f1]at c0;rw[f2]at c1;rw[f3]at c2;rw[f4]at c3;refine ⟨n,A1,d1,m,A2,d2,c0,?_,c2,?_⟩
  .rw[c1];simp[f2,vlen]
  .rw[c3];simp[f4,vlen]) (fun k hk=>by
  have hk':k<es.length:=by simpa using hk
  obtain ⟨⟨n,A1,d1,xs,f1,f2,_,_,g1,g2⟩,⟨m,A2,d2,ys,f3,f4,_,_,g3,g4⟩⟩:=hel _ (List.getElem_mem hk');simp only[List.getElem_map,f2,f4,vlen]
  exact ⟨by omega,by omega⟩) (by simpa using hl) (r:=r) (by rw[<-hr,List.any_map];rfl)
 rw[List.length_map]at h1;exact h1
theorem vlong_any (g:Nat)(vs:List VA)(cap:Nat)(w:World)(hg:g<w.heap.size)(hc:∀i (h:i<vs.length),w.cell? ⟨g,i,none⟩=some (.slice vs[i].A vs[i].es.length vs[i].c))(hv:∀v∈vs,VIn w v)(hl:vs.length<=1000){r:Bool}(hr:vs.any (fun v=>lngV v.es)=r) :
  Calls Tryz.prog 27 #[.slice (some ⟨g,0,none⟩) vs.length cap] w fun e w'=>e=.returned (.bool r)/\Below w.heap.size w w':=by
 have HG:=Hd hg;have HC:=Hd hc;have HV:=Hd hv;have HR:=Hd hr;clear hg hc hv hr
 go_enter Tryz.func27,Tryz.ntmps27
 go_wp2
 go_loopw [3] (fun i wr=>∃k:Nat,i=.int .i64 k/\k<=vs.length/\(∀j (hj:j<vs.length),j<k->lngV vs[j].es=false)/\Below w.heap.size w wr) (fun i _=>vs.length-(intOf i).toNat)
 case atStart=>exact ⟨0,rfl,Nat.zero_le _,(fun j _ hj=>by omega),Below.refl _ _⟩
 case round =>
  obtain ⟨k,rfl,hk,ht,hb⟩:=hrel;have HT:=Hd ht;have HB:=Hd hb;clear ht hb
  by_cases hlt:k<vs.length
  .have hki:(0:Int)<=(k:Int):=by omega
   have hki':(k:Int)<(vs.length:Int):=by omega
   have hcell:=(HB.out.cell (p:=⟨g,k,none⟩) HG.out).trans (HC.out k hlt);have hvk:=(HV.out _ (List.getElem_mem hlt)).to HB.out;have HN:Hid (∀b,lngV vs[k].es=b->lngV vs[k].es=b):=fun _ h=>h
   obtain ⟨v,hve⟩:∃v,vs[k]=v:=⟨_,rfl⟩
   have HVE:=Hd hve;rw[hve]at hcell hvk;have hsz:=Nat.le_trans hvk.cap hvk.c63;have HVK:=Hd hvk;have HLT:=Hd hlt;clear hvk HN hve
   by_cases h20:20<v.es.length
   .have hd:decide ((20:Int)<(v.es.length:Int))=true:=decide_eq_true (by omega)
    have hany:Hid (vs.any (fun v=>lngV v.es)=true):=by
     show _=_
     rw[List.any_eq_true];exact ⟨vs[k]'HLT.out,List.getElem_mem _,by rw[HVE.out];unfold lngV;rw[decide_eq_true h20];rfl⟩
    clear h20;go_wp2
    go_ret
    exact ⟨by rw[<-HR.out,hany.out];rfl,HB.out⟩
   .have hd:decide ((20:Int)<(v.es.length:Int))=false:=decide_eq_false (by omega);have hd2:¬(20:Int)<(v.es.length:Int):=by omega
    have H20:=Hd h20;obtain ⟨r1,hr1⟩:∃r1,v.es.any lngE=r1:=⟨_,rfl⟩
    have HR1:=Hd hr1;clear h20 hr1
    go_wp2_with fail
    refine (flong_v HVK.out (by have:=H20.out;omega) HR1.out).mono ?_;rintro e V ⟨rfl,bb⟩;have HB2:=Hxb HB bb;clear bb
    cases r1 with
    | true =>
     have hany:Hid (vs.any (fun v=>lngV v.es)=true):=by
      show _=_
      rw[List.any_eq_true];exact ⟨vs[k]'HLT.out,List.getElem_mem _,by rw[HVE.out];unfold lngV;rw[HR1.out,Bool.or_true]⟩
     go_wp2
     go_ret
     exact ⟨by rw[<-HR.out,hany.out];rfl,HB2.out⟩
    | false =>
     go_wp2
     go_roundw
     case rel =>
      refine ⟨k+1,by simp,HLT.out,fun j hj hjk=>?_,HB2.out⟩
      by_cases hjk':j=k
      .subst hjk';rw[HVE.out];unfold lngV;rw[HR1.out,decide_eq_false H20.out];rfl
      .exact HT.out j hj (by omega)
     case measure=>have:=HLT.out;simp[intOf];omega
  .obtain rfl:k=vs.length:=by omega
   go_wp2
   go_ret
   refine ⟨?_,HB.out⟩
   rw[<-HR.out,show vs.any (fun v=>lngV v.es)=false from by
    rw[List.any_eq_false];intro x hx;obtain ⟨j,hj,rfl⟩:=List.mem_iff_getElem.1 hx
    simpa using HT.out j hj hj]
   rfl
theorem VIn.vi {w:World}{v:VA}(h:VIn w v)(hl:lngV v.es=false):∃rs,Vi w v.A v.c v.es rs 6/\rs.length<=20:=by
 obtain ⟨A,c,es⟩:=v;obtain ⟨hrow,hel,hcap,hc63⟩:=h;dsimp only at hrow hel hcap hc63 hl ⊢;unfold lngV at hl;simp only[Bool.or_eq_false_iff,decide_eq_false_iff_not,List.any_eq_false]at hl
 have key:∀e∈es,∃r:Rat,Qi w e.a e.b e.c e.d r 6:=fun e he=>by
  have h1:=hl.2 e he;obtain ⟨⟨n,A1,d1,xs,f1,f2,r1,g1,l1,m1⟩,⟨m,A2,d2,ys,f3,f4,r2,g2,l2,m2⟩⟩:=hel e he;unfold lngE at h1;simp only[f2,f4,vlen,Bool.or_eq_true,decide_eq_true_eq,not_or]at h1;refine ⟨_,_,_,⟨n,A1,d1,xs,f1,f2,⟨r1,g1,l1,m1,by omega⟩,by omega,rfl⟩,⟨m,A2,d2,ys,f3,f4,⟨r2,g2,l2,m2,by omega⟩,by omega,rfl⟩,rfl,Sm.zof g1 (by omega),Sm.zof g2 (by omega)⟩
 obtain ⟨rs,h1,h2⟩:∃rs:List Rat,es.length=rs.length/\∀i,Qi w (es.getD i E4.z).a (es.getD i E4.z).b (es.getD i E4.z).c (es.getD i E4.z).d (rs.getD i 0) 6:=by
  clear hrow hcap hl hel
  induction es with
  | nil=>exact ⟨[],rfl,fun i=>by simpa [E4.z]using Qi.zero w⟩
  | cons e r ih =>
   obtain ⟨q,hq⟩:=key e (by simp);obtain ⟨rs,h1,h2⟩:=ih (fun e he=>key e (by simp[he]));refine ⟨q::rs,by simp[h1],fun i=>?_⟩
   cases i with
   | zero=>simpa using hq
   | succ i=>simpa using h2 i
 exact ⟨rs,⟨hrow,h1,h2,fun e he=>(hel e he).fq,hcap,hc63⟩,by rw[<-h1];omega⟩
end Go.Proofs.YtglhdielkkhefaaGreat

namespace Go.Proofs.YtglhdielkkhefaaGreat
open Go.ChangeShapes Go.WideShapes Go.ChangeAt Go.RowKit Go.Joins
instance : Inhabited E4:=⟨E4.z⟩
theorem spot_none {W:World}{a:Addr}{v:Value}(h:W.cell? a=some v):a.spot=none:=by
 unfold World.cell? at h
 split at h
 .split at h
  .cases h
  .rename_i hs
   simpa using hs
 .cases h
theorem open_v {H:Type}{enc:TypeId×Value->H}{W:World}{base:Nat}{spare:Nat->Bool}{held:Bool}{r:Reach}{b0:Nat}{v:Value}{d:DataW H}{p:List MemPlace}
  (hs:∀b,spare b=true) (hv:Value.okWide Tryz.prog W r b0 38 v) (h:DataW.Trod enc Tryz.prog W base spare held 38 v d p) :
  ∃A c es,v=.slice A es.length c/\VIn W ⟨A,c,es⟩:=by
 obtain ⟨a,len,cap,rfl⟩:=okWide_slice Tryz.underlying38 hv;obtain ⟨fuel,hf⟩:=h;replace hf:DataW.trod enc Tryz.prog W base spare held fuel 38 [.slice a len cap]=some (d,p):=hf
 rcases Go.Deep.open_slice Tryz.underlying38 hf with ⟨e1,_⟩|⟨ad,l,cp,m,n,D,Pl,e1,hb,hl,hm,hmm,_,hx⟩
 .simp only[List.cons.injEq,Value.slice.injEq,and_true]at e1;obtain ⟨rfl,rfl,rfl⟩:=e1;exact ⟨none,0,[],rfl,⟨Rq.nil,fun e he=>(by cases he),Nat.le_refl _,by decide⟩⟩
 .simp only[List.cons.injEq,Value.slice.injEq,and_true]at e1;obtain ⟨rfl,rfl,rfl⟩:=e1;have hlm:len<=m:=by rw[hmm];split<;>omega
  have each:∀i,i<len->∃E:E4,(W.cell? (ad.add (i*4))=some E.a/\W.cell? (ad.add (i*4+1))=some E.b/\W.cell? (ad.add (i*4+2))=some E.c/\W.cell? (ad.add (i*4+3))=some E.d)/\ZxE W E:=by
   intro i hi;obtain ⟨cs',h1,h2⟩:=hx i (by omega);rw[cellsQ]at h1;obtain ⟨_,hlen,hcell⟩:=World.cells?_some h1
   match cs',hlen with
   | [c0,c1,c2,c3],_ =>
    have f0:=hcell 0 (by omega);have f1:=hcell 1 (by omega);have f2:=hcell 2 (by omega);have f3:=hcell 3 (by omega);rw[Go.Deep.add_add]at f0 f1 f2 f3;exact ⟨⟨c0,c1,c2,c3⟩,⟨by simpa using f0,by simpa using f1,by simpa using f2,by simpa using f3⟩,trod_q hs h2⟩
  obtain ⟨E,hE⟩:=Go.Deep.choose_lt each;have hlen:((List.range len).map E).length=len:=by simp
  refine ⟨some ad,cap,(List.range len).map E,by rw[hlen],⟨?_,?_,by show ((List.range len).map E).length<=cap;rw[hlen];exact hl,by have:=hm;unfold maxLen at this;show cap<=_;omega⟩⟩
  .intro k hk;have hk':k<len:=by rw[<-hlen];exact hk
   obtain ⟨⟨c0,c1,c2,c3⟩,_⟩:=hE k hk';have hsp:=spot_none (hE 0 (by omega)).1.1;obtain ⟨b,o,sp⟩:=ad;have h0:(⟨b,o,sp⟩:Addr).add (0*4)=⟨b,o,sp⟩:=by simp[Addr.add]
   rw[h0]at hsp;dsimp only at hsp;subst hsp
   have hadd:∀j,(⟨b,o,none⟩:Addr).add j=⟨b,o+j,none⟩:=fun j=>by
    unfold Addr.add
    by_cases hj:j=0
    .simp[hj]
    .simp[hj]
   rw[hadd]at c0 c1 c2 c3;refine ⟨b,o,rfl,World.block_lt_of_cell? W _ c0,?_⟩;have he:((List.range len).map E)[k]=E k:=by simp
   show W.cell? ⟨b,o+k*4,none⟩=some (((List.range len).map E)[k]).a/\W.cell? ⟨b,o+k*4+1,none⟩=some (((List.range len).map E)[k]).b/\W.cell? ⟨b,o+k*4+2,none⟩=some (((List.range len).map E)[k]).c/\W.cell? ⟨b,o+k*4+3,none⟩=some (((List.range len).map E)[k]).d
   rw[he];exact ⟨c0,by rw[<-Nat.add_assoc]at c1;exact c1,by rw[<-Nat.add_assoc]at c2;exact c2,by rw[<-Nat.add_assoc]at c3;exact c3⟩
  .intro e he;obtain ⟨i,hi,rfl⟩:=List.mem_map.1 he;exact (hE i (List.mem_range.1 hi)).2
theorem open_vt {H:Type}{enc:TypeId×Value->H}{W:World}{base:Nat}{spare:Nat->Bool}{held:Bool}{v:Value}{fuel:Nat}{x:DataW H×List MemPlace}
  (hs:∀b,spare b=true) (hf:DataW.trod enc Tryz.prog W base spare held fuel 38 [v]=some x) :
  ∃A c es,v=.slice A es.length c/\VIn W ⟨A,c,es⟩:=by
 rcases Go.Deep.open_slice Tryz.underlying38 hf with ⟨e1,_⟩|⟨ad,len,cap,m,n,D,Pl,e1,hb,hl,hm,hmm,_,hx⟩
 .simp only[List.cons.injEq,Value.slice.injEq,and_true]at e1;obtain ⟨rfl,rfl,rfl⟩:=e1;exact ⟨none,0,[],rfl,⟨Rq.nil,fun e he=>(by cases he),Nat.le_refl _,by decide⟩⟩
 .simp only[List.cons.injEq,Value.slice.injEq,and_true]at e1;obtain ⟨rfl,rfl,rfl⟩:=e1;have hlm:len<=m:=by rw[hmm];split<;>omega
  have each:∀i,i<len->∃E:E4,(W.cell? (ad.add (i*4))=some E.a/\W.cell? (ad.add (i*4+1))=some E.b/\W.cell? (ad.add (i*4+2))=some E.c/\W.cell? (ad.add (i*4+3))=some E.d)/\ZxE W E:=by
   intro i hi;obtain ⟨cs',h1,h2⟩:=hx i (by omega);rw[cellsQ]at h1;obtain ⟨_,hlen,hcell⟩:=World.cells?_some h1
   match cs',hlen with
   | [c0,c1,c2,c3],_ =>
    have f0:=hcell 0 (by omega);have f1:=hcell 1 (by omega);have f2:=hcell 2 (by omega);have f3:=hcell 3 (by omega);rw[Go.Deep.add_add]at f0 f1 f2 f3;exact ⟨⟨c0,c1,c2,c3⟩,⟨by simpa using f0,by simpa using f1,by simpa using f2,by simpa using f3⟩,trod_q hs h2⟩
  obtain ⟨E,hE⟩:=Go.Deep.choose_lt each;have hlen:((List.range len).map E).length=len:=by simp
  refine ⟨some ad,cap,(List.range len).map E,by rw[hlen],⟨?_,?_,by show ((List.range len).map E).length<=cap;rw[hlen];exact hl,by have:=hm;unfold maxLen at this;show cap<=_;omega⟩⟩
  .intro k hk;have hk':k<len:=by rw[<-hlen];exact hk
   obtain ⟨⟨c0,c1,c2,c3⟩,_⟩:=hE k hk';have hsp:=spot_none (hE 0 (by omega)).1.1;obtain ⟨b,o,sp⟩:=ad;have h0:(⟨b,o,sp⟩:Addr).add (0*4)=⟨b,o,sp⟩:=by simp[Addr.add]
   rw[h0]at hsp;dsimp only at hsp;subst hsp
   have hadd:∀j,(⟨b,o,none⟩:Addr).add j=⟨b,o+j,none⟩:=fun j=>by
    unfold Addr.add
    by_cases hj:j=0
    .simp[hj]
    .simp[hj]
   rw[hadd]at c0 c1 c2 c3;refine ⟨b,o,rfl,World.block_lt_of_cell? W _ c0,?_⟩;have he:((List.range len).map E)[k]=E k:=by simp
   show W.cell? ⟨b,o+k*4,none⟩=some (((List.range len).map E)[k]).a/\W.cell? ⟨b,o+k*4+1,none⟩=some (((List.range len).map E)[k]).b/\W.cell? ⟨b,o+k*4+2,none⟩=some (((List.range len).map E)[k]).c/\W.cell? ⟨b,o+k*4+3,none⟩=some (((List.range len).map E)[k]).d
   rw[he];exact ⟨c0,by rw[<-Nat.add_assoc]at c1;exact c1,by rw[<-Nat.add_assoc]at c2;exact c2,by rw[<-Nat.add_assoc]at c3;exact c3⟩
  .intro e he;obtain ⟨i,hi,rfl⟩:=List.mem_map.1 he;exact (hE i (List.mem_range.1 hi)).2
theorem cellsV : Tryz.prog.cellsOf 38=1:=by kernel_rfl
theorem open_r {H:Type}{enc:TypeId×Value->H}{W:World}{base:Nat}{spare:Nat->Bool}{held:Bool}{r:Reach}{b0:Nat}{v:Value}{d:DataW H}{p:List MemPlace}
  (hs:∀b,spare b=true) (hv:Value.okWide Tryz.prog W r b0 22 v) (h:DataW.Trod enc Tryz.prog W base spare held 22 v d p) :
  ∃(P:Option Addr) (n C:Nat) (vs:Nat->VA),v=.slice P n C/\n<=9223372036854775807/\(∀i,i<n->∃b o,P=some ⟨b,o,none⟩/\b<W.heap.size/\W.cell? ⟨b,o+i,none⟩=some (.slice (vs i).A (vs i).es.length (vs i).c))/\∀i,i<n->VIn W (vs i):=by
 obtain ⟨a,len,cap,rfl⟩:=okWide_slice Tryz.underlying22 hv;obtain ⟨fuel,hf⟩:=h;replace hf:DataW.trod enc Tryz.prog W base spare held fuel 22 [.slice a len cap]=some (d,p):=hf
 rcases Go.Deep.open_slice1 Tryz.underlying22 cellsV hf with ⟨e1,_⟩|⟨ad,l,cp,m,n,V,D,Pl,e1,hb,hl,hm,hmm,_,hx⟩
 .simp only[List.cons.injEq,Value.slice.injEq,and_true]at e1;obtain ⟨rfl,rfl,rfl⟩:=e1;exact ⟨none,0,0,fun _=>⟨none,0,[]⟩,rfl,by decide,fun i hi=>absurd hi (Nat.not_lt_zero _),fun i hi=>absurd hi (Nat.not_lt_zero _)⟩
 .simp only[List.cons.injEq,Value.slice.injEq,and_true]at e1;obtain ⟨rfl,rfl,rfl⟩:=e1;have hlm:len<=m:=by rw[hmm];split<;>omega
  have each:∀i,i<len->∃u:VA,V i=.slice u.A u.es.length u.c/\VIn W u:=fun i hi=>by
   obtain ⟨A,c,es,h1,h2⟩:=open_vt hs (hx i (by omega)).2;exact ⟨⟨A,c,es⟩,h1,h2⟩
  haveI:Inhabited VA:=⟨⟨none,0,[]⟩⟩
  obtain ⟨vs,hvs⟩:=Go.Deep.choose_lt each;refine ⟨some ad,len,cap,vs,rfl,by have:=hm;unfold maxLen at this;omega,fun i hi=>?_,fun i hi=>(hvs i hi).2⟩;have hc:=(hx i (by omega)).1;have h0:=(hx 0 (by omega)).1;obtain ⟨b,o,sp⟩:=ad;have h00:(⟨b,o,sp⟩:Addr).add 0=⟨b,o,sp⟩:=by simp[Addr.add]
  rw[h00]at h0;have hsp:=spot_none h0;dsimp only at hsp;subst hsp
  have hadd:(⟨b,o,none⟩:Addr).add i=⟨b,o+i,none⟩:=by
   unfold Addr.add
   by_cases hj:i=0
   .simp[hj]
   .simp[hj]
  rw[hadd,(hvs i hi).1]at hc;exact ⟨b,o,rfl,World.block_lt_of_cell? W _ hc,hc⟩
end Go.Proofs.YtglhdielkkhefaaGreat

namespace Go.Proofs.YtglhdielkkhefaaGreat
open Go.RowKit Go.Shelf
theorem vlong_o (P:Option Addr)(vs:List VA)(cap:Nat)(w:World)(hc:∀i (h:i<vs.length),∃b o,P=some ⟨b,o,none⟩/\b<w.heap.size/\w.cell? ⟨b,o+i,none⟩=some (.slice vs[i].A vs[i].es.length vs[i].c))(hv:∀v∈vs,VIn w v)(hl:vs.length<=9223372036854775807){r:Bool}(hr:vs.any (fun v=>lngV v.es)=r) :
  Calls Tryz.prog 27 #[.slice P vs.length cap] w fun e w'=>e=.returned (.bool r)/\Below w.heap.size w w':=by
 have HC:=Hd hc;have HV:=Hd hv;have HR:=Hd hr;clear hc hv hr
 go_enter Tryz.func27,Tryz.ntmps27
 go_wp2
 go_loopw [3] (fun i wr=>∃k:Nat,i=.int .i64 k/\k<=vs.length/\(∀j (hj:j<vs.length),j<k->lngV vs[j].es=false)/\Below w.heap.size w wr) (fun i _=>vs.length-(intOf i).toNat)
 case atStart=>exact ⟨0,rfl,Nat.zero_le _,(fun j _ hj=>by omega),Below.refl _ _⟩
 case round =>
  obtain ⟨k,rfl,hk,ht,hb⟩:=hrel;have HT:=Hd ht;have HB:=Hd hb;clear ht hb
  by_cases hlt:k<vs.length
  .have hki:(0:Int)<=(k:Int):=by omega
   have hki':(k:Int)<(vs.length:Int):=by omega
   obtain ⟨b,o,rfl,hbb,hc0⟩:=HC.out k hlt;have hcell:=(HB.out.cell (p:=⟨b,o+k,none⟩) hbb).trans hc0;have hk63:(k:Int)+1<=9223372036854775807:=by omega
   clear hc0 hbb;have hvk:=(HV.out _ (List.getElem_mem hlt)).to HB.out;have HN:Hid (∀b,lngV vs[k].es=b->lngV vs[k].es=b):=fun _ h=>h
   obtain ⟨v,hve⟩:∃v,vs[k]=v:=⟨_,rfl⟩
   have HVE:=Hd hve;rw[hve]at hcell hvk;have hsz:=Nat.le_trans hvk.cap hvk.c63;have HVK:=Hd hvk;have HLT:=Hd hlt;clear hvk HN hve
   by_cases h20:20<v.es.length
   .have hd:decide ((20:Int)<(v.es.length:Int))=true:=decide_eq_true (by omega)
    have hany:Hid (vs.any (fun v=>lngV v.es)=true):=by
     show _=_
     rw[List.any_eq_true];exact ⟨vs[k]'HLT.out,List.getElem_mem _,by rw[HVE.out];unfold lngV;rw[decide_eq_true h20];rfl⟩
    clear h20;go_wp2
    go_ret
    exact ⟨by rw[<-HR.out,hany.out];rfl,HB.out⟩
   .have hd:decide ((20:Int)<(v.es.length:Int))=false:=decide_eq_false (by omega);have hd2:¬(20:Int)<(v.es.length:Int):=by omega
    have H20:=Hd h20;obtain ⟨r1,hr1⟩:∃r1,v.es.any lngE=r1:=⟨_,rfl⟩
    have HR1:=Hd hr1;clear h20 hr1
    go_wp2_with fail
    refine (flong_v HVK.out (by have:=H20.out;omega) HR1.out).mono ?_;rintro e V ⟨rfl,bb⟩;have HB2:=Hxb HB bb;clear bb
    cases r1 with
    | true =>
     have hany:Hid (vs.any (fun v=>lngV v.es)=true):=by
      show _=_
      rw[List.any_eq_true];exact ⟨vs[k]'HLT.out,List.getElem_mem _,by rw[HVE.out];unfold lngV;rw[HR1.out,Bool.or_true]⟩
     go_wp2
     go_ret
     exact ⟨by rw[<-HR.out,hany.out];rfl,HB2.out⟩
    | false =>
     go_wp2
     go_roundw
     case rel =>
      refine ⟨k+1,by simp,HLT.out,fun j hj hjk=>?_,HB2.out⟩
      by_cases hjk':j=k
      .subst hjk';rw[HVE.out];unfold lngV;rw[HR1.out,decide_eq_false H20.out];rfl
      .exact HT.out j hj (by omega)
     case measure=>have:=HLT.out;simp[intOf];omega
  .obtain rfl:k=vs.length:=by omega
   go_wp2
   go_ret
   refine ⟨?_,HB.out⟩
   rw[<-HR.out,show vs.any (fun v=>lngV v.es)=false from by
    rw[List.any_eq_false];intro x hx;obtain ⟨j,hj,rfl⟩:=List.mem_iff_getElem.1 hx
    simpa using HT.out j hj hj]
   rfl
structure MA where
 P:Option Addr
 N:Nat
 C:Nat
 vs:Nat->VA
structure MIn (W:World)(M:MA):Prop where
 row:∀i,i<M.N->∃b o,M.P=some ⟨b,o,none⟩/\b<W.heap.size/\W.cell? ⟨b,o+i,none⟩=some (.slice (M.vs i).A (M.vs i).es.length (M.vs i).c)
 vin:∀i,i<M.N->VIn W (M.vs i)
 n63:M.N<=9223372036854775807
theorem MIn.to {W V:World}{M:MA}(h:MIn W M)(hb:Below W.heap.size W V):MIn V M :=
 ⟨fun i hi=>by
  obtain ⟨b,o,e,h1,h2⟩:=h.row i hi
  exact ⟨b,o,e,Nat.lt_of_lt_of_le h1 hb.size,(hb.cell (p:=⟨b,_,none⟩) h1).trans h2⟩,fun i hi=>(h.vin i hi).to hb,h.n63⟩
def rsL (vs:Nat->VA)(k:Nat):List Rat:=List.replicate (vs k).es.length 0
def lngM (M:MA):Bool:=decide (8<M.N)||decide (8<colsN (rsL M.vs) M.N)||((List.range M.N).map M.vs).any (fun v=>lngV v.es)
theorem vlong_n {w:World}{M:MA}(h:MIn w M){r:Bool}(hr:((List.range M.N).map M.vs).any (fun v=>lngV v.es)=r) :
  Calls Tryz.prog 27 #[.slice M.P M.N M.C] w fun e w'=>e=.returned (.bool r)/\Below w.heap.size w w':=by
 have hl:((List.range M.N).map M.vs).length=M.N:=by simp
 have h1:=vlong_o M.P ((List.range M.N).map M.vs) M.C w (fun i hi=>by
  rw[hl]at hi;obtain ⟨b,o,e,hb,h⟩:=h.row i hi
  exact ⟨b,o,e,hb,by simpa using h⟩) (fun v hm=>by
  obtain ⟨i,hi,rfl⟩:=List.mem_map.1 hm
  exact h.vin i (List.mem_range.1 hi)) (by rw[hl];exact h.n63) hr
 rwa [hl]at h1
theorem mcols_n {w:World}{M:MA}(h:MIn w M)(h8:M.N<=8) :
  Calls Tryz.prog 14 #[.slice M.P M.N M.C] w fun e w'=>e=.returned (.int .i64 (colsN (rsL M.vs) M.N))/\Below w.heap.size w w' :=
 rcols_m (fun k hk=>by
  obtain ⟨b,o,e,h1,h2⟩:=h.row k hk
  exact ⟨b,o,(M.vs k).A,(M.vs k).c,e,h1,by rw[h2];simp[rsL]⟩) (by omega) (fun k hk=>by
  have h1:=(h.vin k hk).cap;have h2:=(h.vin k hk).c63;simp only[rsL,List.length_replicate]
  omega)
theorem long4_o (P:Option Addr)(ms:List MA)(cap:Nat)(w:World)(hc:∀i (h:i<ms.length),∃b o,P=some ⟨b,o,none⟩/\b<w.heap.size/\w.cell? ⟨b,o+i,none⟩=some (.slice ms[i].P ms[i].N ms[i].C))(hv:∀M∈ms,MIn w M)(hl:ms.length<=1000){r:Bool}(hr:ms.any lngM=r) :
  Calls Tryz.prog 10 #[.slice P ms.length cap] w fun e w'=>e=.returned (.bool r)/\Below w.heap.size w w':=by
 have HC:=Hd hc;have HV:=Hd hv;have HR:=Hd hr;obtain ⟨N,hN⟩:∃N,ms.length=N:=⟨_,rfl⟩
 have HN:=Hd hN;rw[hN]at hl ⊢;have HL:=Hd hl;clear hc hv hr hN hl
 go_enter Tryz.func10,Tryz.ntmps10
 go_wp2
 go_loopw [3] (fun i wr=>∃k:Nat,i=.int .i64 k/\k<=N/\(∀j (h:j<ms.length),j<k->lngM ms[j]=false)/\Below w.heap.size w wr) (fun i _=>N-(intOf i).toNat)
 case atStart=>exact ⟨0,rfl,Nat.zero_le _,fun j h h0=>by omega,Below.refl _ _⟩
 case round =>
  obtain ⟨k,rfl,hk,hz,hb⟩:=hrel
  by_cases hlt:k<N
  .have hk1:(0:Int)<=(k:Int):=by omega
   have hk2:(k:Int)<(N:Int):=by omega
   have hk3:(k:Int)+1<=9223372036854775807:=by have:=HL.out;omega
   have hkm:k<ms.length:=by rw[HN.out];exact hlt
   obtain ⟨b,o,rfl,hbo,hcc⟩:=HC.out k hkm;have fc:=(hb.cell (p:=⟨b,_,none⟩) hbo).trans hcc;have hM:=(HV.out _ (List.getElem_mem hkm)).to hb;have HT:Hid (lngM ms[k]=true->r=true):=fun h=>by rw[<-HR.out];exact List.any_eq_true.2 ⟨_,List.getElem_mem hkm,h⟩
   have HZ:Hid (lngM ms[k]=false->∀j (h:j<ms.length),j<k+1->lngM ms[j]=false):=fun h j hj hjk=>by
    by_cases e:j=k
    .subst e;exact h
    .exact hz j hj (by omega)
   have HB:=Hd hb;have HLT:=Hd hlt;obtain ⟨M,hMM⟩:∃M,ms[k]=M:=⟨_,rfl⟩
   rw[hMM]at fc hM HT HZ;clear hb hlt hk hz hkm hbo hcc hMM;have HMI:=Hd hM;have hn63:=hM.n63;clear hM
   by_cases h8:8<M.N
   .have d8:(8:Int)<(M.N:Int):=by omega
    have hr:r=true:=HT.out (by unfold lngM;rw[decide_eq_true h8];rfl);have HRT:=Hd hr;clear h8 hn63 hr;go_wp2
    go_ret
    exact ⟨by rw[HRT.out];rfl,HB.out⟩
   .have d8:¬(8:Int)<(M.N:Int):=by omega
    have hCO:=Hd (mcols_n HMI.out (by omega));have H8:=Hd h8;clear h8 hn63
    go_wp2_with fail
    refine hCO.out.mono ?_;rintro e V ⟨rfl,bb⟩;have fV:=(bb.cell (p:=⟨b,o+k,none⟩) (World.block_lt_of_cell? wr _ fc)).trans fc;have HMV:=Hd (HMI.out.to bb);replace HB:=Hxb HB bb;clear bb hCO fc HMI;obtain ⟨x,hx⟩:∃x,colsN (rsL M.vs) M.N=x:=⟨_,rfl⟩
    have HXX:=Hd hx;rw[hx];clear hx
    by_cases hx8:8<x
    .have e8:(8:Int)<(x:Int):=by omega
     have e9:decide ((8:Int)<(x:Int))=true:=decide_eq_true e8;have hr:r=true:=HT.out (by unfold lngM;rw[HXX.out,decide_eq_true hx8];simp);have HRT:=Hd hr;clear hx8 hr;go_wp2
     go_ret
     exact ⟨by rw[HRT.out];rfl,HB.out⟩
    .have e8:¬(8:Int)<(x:Int):=by omega
     have e9:decide ((8:Int)<(x:Int))=false:=decide_eq_false e8;have HX8:=Hd hx8;clear hx8;obtain ⟨y,hy⟩:∃y,((List.range M.N).map M.vs).any (fun v=>lngV v.es)=y:=⟨_,rfl⟩
     have hLO:=Hd (vlong_n HMV.out hy)
     have HLM:Hid (lngM M=y):=by
      show _=_
      unfold lngM;rw[HXX.out,decide_eq_false H8.out,decide_eq_false HX8.out,hy];rfl
     clear hy
     go_wp2_with fail
     refine hLO.out.mono ?_;rintro e V2 ⟨rfl,bb⟩;replace HB:=Hxb HB bb;clear bb hLO fV HMV
     cases y with
     | true =>
      have hr:r=true:=HT.out HLM.out;have HRT:=Hd hr;clear hr;go_wp2
      go_ret
      exact ⟨by rw[HRT.out];rfl,HB.out⟩
     | false =>
      have HZ2:=Hd (HZ.out HLM.out);clear HT HZ HLM HXX H8 HX8 HC HV HR;go_wp2
      go_roundw
      case rel=>exact ⟨k+1,by simp,HLT.out,HZ2.out,HB.out⟩
      case measure=>have:=HLT.out;simp[intOf];omega
  .obtain rfl:k=N:=by omega
   have HB:=Hd hb
   have hr:r=false:=by
    rw[<-HR.out];refine List.any_eq_false.2 fun M hm=>?_
    obtain ⟨j,hj,rfl⟩:=List.getElem_of_mem hm;rw[hz j hj (by rw[<-HN.out];exact hj)]
    decide
   have HRT:=Hd hr;clear hb hlt hk hz hr;go_wp2
   go_ret
   exact ⟨by rw[HRT.out];rfl,HB.out⟩
end Go.Proofs.YtglhdielkkhefaaGreat
