/- Parts: 2. -/
import Derived.Test.YtiifpobhmnplaaaGreatVs17
set_option linter.unusedVariables false
set_option linter.unusedSimpArgs false
set_option maxRecDepth 100000
set_option maxHeartbeats 40000000

namespace Go.Proofs.YtiifpobhmnplaaaGreat
open Go.RowKit Go.Shelf
attribute [local go_sem] Oper.semAt_some
def vpairE (es fs:List E4)(k:Nat):Array Value:=#[(es.getD k E4.z).v,(fs.getD k E4.z).v]
theorem Rq.keepAt {w w':World}{B:Nat}{S:Addr->Prop}{A:Option Addr}{es:List E4}(h:Rq w B A es)(hS:∀p:Addr,p.block<B->S p)(hk:KeepAt S w w'):Rq w' B A es:=by
 intro k hk'
 obtain ⟨b,o,rfl,hb,h0,h1,h2,h3⟩:=h k hk'
 exact ⟨b,o,rfl,hb,(hk ⟨b,_,none⟩ (hS ⟨b,_,none⟩ hb)).trans h0,(hk ⟨b,_,none⟩ (hS ⟨b,_,none⟩ hb)).trans h1,(hk ⟨b,_,none⟩ (hS ⟨b,_,none⟩ hb)).trans h2,(hk ⟨b,_,none⟩ (hS ⟨b,_,none⟩ hb)).trans h3⟩
theorem dagInE {F:Fence}{n:Nat}{P:Program}{md:Region.Mode}{ops:Array Oper}{Q:Exit->Act->World->Prop}(k:Nat)(l:Array Bool)(a:Act){k':Nat}{l':Array Bool}{a':Act}{w:World}(hk:k'=k)(hl:l'=l)(ha:a'=a)
  (h:∀G:Nat->Array Bool->Act->World->Prop,(∀{k l a w},wpAnyIn F n P md ops Q k l a w->G k l a w)->(∀{k l a w},G k l a w->wpAnyIn F n P md ops Q k l a w)->G k l a w):wpAnyIn F n P md ops Q k' l' a' w:=by
 subst hk hl ha
 exact h _ (fun h=>h) (fun h=>h)
theorem vpairs_gives (Bx By B c c':Nat)(A A':Option Addr)(es fs:List E4)(hx63:es.length<=9223372036854775807)(hy63:fs.length<=9223372036854775807)(W:World)
  (hbx:W.cell? ⟨Bx,0,none⟩=some (.slice A es.length c)) (hby:W.cell? ⟨By,0,none⟩=some (.slice A' fs.length c')) (hx:Rq W B A es) (hy:Rq W B A' fs) (qx:∀e∈es,e.fq) (qy:∀e∈fs,e.fq) :
  GivesB Tryz.prog 78 #[.pointer (some ⟨Bx,0,none⟩),.pointer (some ⟨By,0,none⟩)] (max es.length fs.length) (vpairE es fs) (pairS Bx By B) W:=by
 intro l J Jx hst hY h0
 refine callsIn_of_wp Tryz.func78 rfl trivial ?_ rfl
 simp only[Tryz.ntmps78,List.size_toArray,List.length_cons,List.length_nil,Nat.reduceAdd,Nat.reduceSub,Array.replicate_succ,Array.replicate_zero,List.push_toArray,List.append_toArray,List.nil_append,List.cons_append]
 obtain ⟨N,hN⟩:∃N,max es.length fs.length=N:=⟨_,rfl⟩
 have hN63:N<=9223372036854775807:=by omega
 rw[hN]at hY ⊢
 have HN:=Hd hN
 have HST:=Hd hst
 have HYY:=Hd hY
 have QX:=Hd qx
 have QY:=Hd qy
 have HX63:=Hd hx63
 have HY63:=Hd hy63
 clear hst hY qx qy
 rcases Nat.lt_or_ge es.length fs.length with hle|hle
 rotate_left
 .obtain rfl:N=es.length:=by omega
  clear hN
  gi_wp2
  gi_loopw [10] (fun i wr=>∃k:Nat,i=.int .i64 k/\k<=es.length/\J k wr/\wr.cell? ⟨Bx,0,none⟩=some (.slice A es.length c)/\wr.cell? ⟨By,0,none⟩=some (.slice A' fs.length c')/\Rq wr B A es/\Rq wr B A' fs)
   (fun i _=>es.length-(intOf i).toNat)
  case atStart=>exact ⟨0,rfl,Nat.zero_le _,h0,hbx,hby,hx,hy⟩
  case round =>
   obtain ⟨k,rfl,hk,hJ,cx,cy,rx,ry⟩:=hrel
   clear hbx hby hx hy h0
   have klx:Bx<wr.heap.size:=World.block_lt_of_cell? wr _ cx
   have kly:By<wr.heap.size:=World.block_lt_of_cell? wr _ cy
   by_cases hlt:k<es.length
   .have hlt':(k:Int)<(es.length:Nat):=by omega
    have hdec:decide ((k:Int)<max (es.length:Int) (fs.length:Int))=true:=decide_eq_true (by omega)
    have HX:=Hd (fun (V:World) (hV:Below wr.heap.size wr V)=>at_v (c:=c) (k:=k) (rx.grow hV) QX.out HX63.out)
    have HY:=Hd (fun (V:World) (hV:Below wr.heap.size wr V)=>at_v (c:=c') (k:=k) (ry.grow hV) QY.out HY63.out)
    have HJ:=Hd (fun (V:World) (hV:Below wr.heap.size wr V)=>HYY.out k V hlt (HST.out k _ _ hJ hV))
    have next:∀V W3,Below wr.heap.size wr V->J (k+1) W3->KeepAt (pairS Bx By B) V W3->(∃k':Nat,(Value.int .i64 ((k:Int)+1))=.int .i64 k'/\k'<=es.length/\J k' W3/\W3.cell? ⟨Bx,0,none⟩=some (.slice A es.length c)/\W3.cell? ⟨By,0,none⟩=some (.slice A' fs.length c')/\Rq W3 B A es/\Rq W3 B A' fs) :=
     fun V W3 hV hJ3 hk3=>⟨k+1,by simp,by omega,hJ3,(hk3 _ (.inl rfl)).trans ((hV.cell (p:=⟨Bx,0,none⟩) klx).trans cx),(hk3 _ (.inr (.inl rfl))).trans ((hV.cell (p:=⟨By,0,none⟩) kly).trans cy),(rx.grow hV).keepAt (fun p hp=>.inr (.inr hp)) hk3,(ry.grow hV).keepAt (fun p hp=>.inr (.inr hp)) hk3⟩
    have NEXT:=Hd next
    have HEND:=Hd hlt
    have CX:=Hd (fun (V:World) (hV:Below wr.heap.size wr V)=>(hV.cell (p:=⟨Bx,0,none⟩) klx).trans cx)
    have CY:=Hd (fun (V:World) (hV:Below wr.heap.size wr V)=>(hV.cell (p:=⟨By,0,none⟩) kly).trans cy)
    clear next rx ry cx cy hlt klx kly
    obtain ⟨X,hX⟩:∃X,(es.getD k E4.z).v=X:=⟨_,rfl⟩
    obtain ⟨Y,hY⟩:∃Y,(fs.getD k E4.z).v=Y:=⟨_,rfl⟩
    unfold vpairE at HJ
    rw[hX]at HX HJ
    rw[hY]at HY HJ
    clear hX hY
    gi_wp2_with fail
    refine wpIn_region_any follows ?_
    refine wpAnyIn_take (i:=0) (v:=.func (.yield l) #[] #[]) rfl rfl (by kernel_rfl) (by kernel_rfl) (by kernel_rfl) (fun _ _ _ h=>h) ⟨Or.inl ⟨by rfl,fun w=>by go_simp⟩,fun _=>rfl⟩ ?_
    refine wpAnyIn_take (i:=2) (v:=.int .i64 (k:Int)) rfl rfl (by kernel_rfl) (by kernel_rfl) (by kernel_rfl) (fun _ _ _ h=>h) ⟨Or.inl ⟨by rfl,fun w=>by go_simp⟩,fun _=>rfl⟩ ?_
    refine wpAnyIn_take (i:=5) (v:=.int .i64 (k:Int)) rfl rfl (by kernel_rfl) (by kernel_rfl) (by kernel_rfl) (fun _ _ _ h=>h) ⟨Or.inl ⟨by rfl,fun w=>by go_simp⟩,fun _=>rfl⟩ ?_
    refine dagInE 6 #[true,false,true,false,false,true,false,false,false] ⟨#[.func (.yield l) #[] #[],.pointer (some ⟨Bx,0,none⟩),.pointer (some ⟨By,0,none⟩),undef,.int .i64 (k:Int),.slice A es.length c,.int .i64 (es.length:Int),.slice A' fs.length c',.int .i64 (fs.length:Int),.int .i64 (max (es.length:Int) (fs.length:Int)),.int .i64 (k:Int),.bool true,.int .i64 (k:Int),.func (.yield l) #[] #[],u14,.int .i64 (k:Int),u16,u17,.int .i64 (k:Int),u19,u20,u21,u22],[]⟩ (by kernel_rfl) (by kernel_rfl) (by rfl) (fun G up dn=>?_)
    have S1346:∀V,Below wr.heap.size wr V->G 2 #[true,true,true,true,true,true,true,false,false] ⟨#[.func (.yield l) #[] #[],.pointer (some ⟨Bx,0,none⟩),.pointer (some ⟨By,0,none⟩),undef,.int .i64 (k:Int),.slice A es.length c,.int .i64 (es.length:Int),.slice A' fs.length c',.int .i64 (fs.length:Int),.int .i64 (max (es.length:Int) (fs.length:Int)),.int .i64 (k:Int),.bool true,.int .i64 (k:Int),.func (.yield l) #[] #[],.slice A es.length c,.int .i64 (k:Int),X,.slice A' fs.length c',.int .i64 (k:Int),Y,u20,u21,u22],[]⟩ V:=by
     intro V hV
     refine up ?_
     obtain ⟨fn,tmps,assign,body,hyy,hR⟩:=HJ.out V hV
     refine rdyI (i:=7) (by kernel_rfl) rfl (fun K hK=>?_)
     go_simp
     gi_wp2
     refine hR.mono ?_
     rintro e W3 (⟨rfl,hJ3,hk3⟩|⟨rfl,hJx3⟩)
     .refine hK _ _ ?_
      clear hK K
      refine rdyI (i:=8) (by kernel_rfl) rfl (fun K hK=>?_)
      go_simp
      refine hK _ _ ?_
      clear hK K
      refine wpAnyIn_done (by kernel_rfl) ?_ _
      gi_wp2
      go_roundw
      case rel=>exact NEXT.out V W3 hV hJ3 hk3
      case measure=>have:=HEND.out;simp[intOf];omega
     .refine hK _ _ ?_
      clear hK K
      refine rdyI (i:=8) (by kernel_rfl) rfl (fun K hK=>?_)
      go_simp
      refine hK _ _ ?_
      clear hK K
      refine wpAnyIn_done (by kernel_rfl) ?_ _
      gi_wp2
      refine bodyPost_ret (results_none rfl _ _ _) rfl ?_
      exact ⟨⟨_,rfl⟩,.inr ⟨k,HEND.out,hJx3⟩⟩
    have S134:∀V,Below wr.heap.size wr V->G 3 #[true,true,true,true,true,true,false,false,false] ⟨#[.func (.yield l) #[] #[],.pointer (some ⟨Bx,0,none⟩),.pointer (some ⟨By,0,none⟩),undef,.int .i64 (k:Int),.slice A es.length c,.int .i64 (es.length:Int),.slice A' fs.length c',.int .i64 (fs.length:Int),.int .i64 (max (es.length:Int) (fs.length:Int)),.int .i64 (k:Int),.bool true,.int .i64 (k:Int),.func (.yield l) #[] #[],.slice A es.length c,.int .i64 (k:Int),X,.slice A' fs.length c',.int .i64 (k:Int),u19,u20,u21,u22],[]⟩ V:=by
     intro V hV
     refine up ?_
     refine rdyI (i:=6) (by kernel_rfl) rfl (fun K hK=>?_)
     go_simp
     gi_wp2_with (refine ⟨trivial,?_⟩;gi_at_call 79;refine (callsIn_wide.2 (HY.out V hV)).mono ?_;rintro e w' ⟨rfl,bb⟩)
     exact dn (S1346 _ (Bxb hV bb))
    have S14:∀V,Below wr.heap.size wr V->G 4 #[true,true,true,false,true,true,false,false,false] ⟨#[.func (.yield l) #[] #[],.pointer (some ⟨Bx,0,none⟩),.pointer (some ⟨By,0,none⟩),undef,.int .i64 (k:Int),.slice A es.length c,.int .i64 (es.length:Int),.slice A' fs.length c',.int .i64 (fs.length:Int),.int .i64 (max (es.length:Int) (fs.length:Int)),.int .i64 (k:Int),.bool true,.int .i64 (k:Int),.func (.yield l) #[] #[],.slice A es.length c,.int .i64 (k:Int),u16,.slice A' fs.length c',.int .i64 (k:Int),u19,u20,u21,u22],[]⟩ V:=by
     intro V hV
     refine up ?_
     refine rdyI (i:=3) (by kernel_rfl) rfl (fun K hK=>?_)
     go_simp
     gi_wp2_with (refine ⟨trivial,?_⟩;gi_at_call 79;refine (callsIn_wide.2 (HX.out V hV)).mono ?_;rintro e w' ⟨rfl,bb⟩)
     exact dn (S134 _ (Bxb hV bb))
    have S13:∀V,Below wr.heap.size wr V->G 4 #[true,true,true,true,false,true,false,false,false] ⟨#[.func (.yield l) #[] #[],.pointer (some ⟨Bx,0,none⟩),.pointer (some ⟨By,0,none⟩),undef,.int .i64 (k:Int),.slice A es.length c,.int .i64 (es.length:Int),.slice A' fs.length c',.int .i64 (fs.length:Int),.int .i64 (max (es.length:Int) (fs.length:Int)),.int .i64 (k:Int),.bool true,.int .i64 (k:Int),.func (.yield l) #[] #[],.slice A es.length c,.int .i64 (k:Int),X,u17,.int .i64 (k:Int),u19,u20,u21,u22],[]⟩ V:=by
     intro V hV
     refine up ?_
     refine rdyI (i:=4) (by kernel_rfl) rfl (fun K hK=>?_)
     have cc:=CY.out V hV
     go_simp
     refine hK _ _ ?_
     exact dn (S134 V hV)
    have S1:∀V,Below wr.heap.size wr V->G 5 #[true,true,true,false,false,true,false,false,false] ⟨#[.func (.yield l) #[] #[],.pointer (some ⟨Bx,0,none⟩),.pointer (some ⟨By,0,none⟩),undef,.int .i64 (k:Int),.slice A es.length c,.int .i64 (es.length:Int),.slice A' fs.length c',.int .i64 (fs.length:Int),.int .i64 (max (es.length:Int) (fs.length:Int)),.int .i64 (k:Int),.bool true,.int .i64 (k:Int),.func (.yield l) #[] #[],.slice A es.length c,.int .i64 (k:Int),u16,u17,.int .i64 (k:Int),u19,u20,u21,u22],[]⟩ V:=by
     intro V hV
     refine up ?_
     refine wpAnyIn_ready (rs:=[3,4]) (by kernel_rfl) (by simp) (AllReadyIn.cons rfl (fun K hK=>?_) (AllReadyIn.cons rfl (fun K hK=>?_) AllReadyIn.nil))
     .go_simp
      gi_wp2_with (refine ⟨trivial,?_⟩;gi_at_call 79;refine (callsIn_wide.2 (HX.out V hV)).mono ?_;rintro e w' ⟨rfl,bb⟩)
      exact dn (S13 _ (Bxb hV bb))
     .have cc:=CY.out V hV
      go_simp
      refine hK _ _ ?_
      exact dn (S14 V hV)
    have S4:∀V,Below wr.heap.size wr V->G 5 #[true,false,true,false,true,true,false,false,false] ⟨#[.func (.yield l) #[] #[],.pointer (some ⟨Bx,0,none⟩),.pointer (some ⟨By,0,none⟩),undef,.int .i64 (k:Int),.slice A es.length c,.int .i64 (es.length:Int),.slice A' fs.length c',.int .i64 (fs.length:Int),.int .i64 (max (es.length:Int) (fs.length:Int)),.int .i64 (k:Int),.bool true,.int .i64 (k:Int),.func (.yield l) #[] #[],u14,.int .i64 (k:Int),u16,.slice A' fs.length c',.int .i64 (k:Int),u19,u20,u21,u22],[]⟩ V:=by
     intro V hV
     refine up ?_
     refine rdyI (i:=1) (by kernel_rfl) rfl (fun K hK=>?_)
     have cc:=CX.out V hV
     go_simp
     refine hK _ _ ?_
     exact dn (S14 V hV)
    have S:∀V,Below wr.heap.size wr V->G 6 #[true,false,true,false,false,true,false,false,false] ⟨#[.func (.yield l) #[] #[],.pointer (some ⟨Bx,0,none⟩),.pointer (some ⟨By,0,none⟩),undef,.int .i64 (k:Int),.slice A es.length c,.int .i64 (es.length:Int),.slice A' fs.length c',.int .i64 (fs.length:Int),.int .i64 (max (es.length:Int) (fs.length:Int)),.int .i64 (k:Int),.bool true,.int .i64 (k:Int),.func (.yield l) #[] #[],u14,.int .i64 (k:Int),u16,u17,.int .i64 (k:Int),u19,u20,u21,u22],[]⟩ V:=by
     intro V hV
     refine up ?_
     refine wpAnyIn_ready (rs:=[1,4]) (by kernel_rfl) (by simp) (AllReadyIn.cons rfl (fun K hK=>?_) (AllReadyIn.cons rfl (fun K hK=>?_) AllReadyIn.nil))
     .have cc:=CX.out V hV
      go_simp
      refine hK _ _ ?_
      exact dn (S1 V hV)
     .have cc:=CY.out V hV
      go_simp
      refine hK _ _ ?_
      exact dn (S4 V hV)
    exact S _ (Below.refl _ _).drew
   .obtain rfl:k=es.length:=by omega
    gi_wp2
    go_end0
    exact ⟨⟨_,rfl⟩,.inl hJ⟩
 .obtain rfl:N=fs.length:=by omega
  clear hN
  gi_wp2
  gi_loopw [10] (fun i wr=>∃k:Nat,i=.int .i64 k/\k<=fs.length/\J k wr/\wr.cell? ⟨Bx,0,none⟩=some (.slice A es.length c)/\wr.cell? ⟨By,0,none⟩=some (.slice A' fs.length c')/\Rq wr B A es/\Rq wr B A' fs)
   (fun i _=>fs.length-(intOf i).toNat)
  case atStart=>exact ⟨0,rfl,Nat.zero_le _,h0,hbx,hby,hx,hy⟩
  case round =>
   obtain ⟨k,rfl,hk,hJ,cx,cy,rx,ry⟩:=hrel
   clear hbx hby hx hy h0
   have klx:Bx<wr.heap.size:=World.block_lt_of_cell? wr _ cx
   have kly:By<wr.heap.size:=World.block_lt_of_cell? wr _ cy
   by_cases hlt:k<fs.length
   .have hlt':(k:Int)<(fs.length:Nat):=by omega
    have hdec:decide ((k:Int)<max (es.length:Int) (fs.length:Int))=true:=decide_eq_true (by omega)
    have HX:=Hd (fun (V:World) (hV:Below wr.heap.size wr V)=>at_v (c:=c) (k:=k) (rx.grow hV) QX.out HX63.out)
    have HY:=Hd (fun (V:World) (hV:Below wr.heap.size wr V)=>at_v (c:=c') (k:=k) (ry.grow hV) QY.out HY63.out)
    have HJ:=Hd (fun (V:World) (hV:Below wr.heap.size wr V)=>HYY.out k V hlt (HST.out k _ _ hJ hV))
    have next:∀V W3,Below wr.heap.size wr V->J (k+1) W3->KeepAt (pairS Bx By B) V W3->(∃k':Nat,(Value.int .i64 ((k:Int)+1))=.int .i64 k'/\k'<=fs.length/\J k' W3/\W3.cell? ⟨Bx,0,none⟩=some (.slice A es.length c)/\W3.cell? ⟨By,0,none⟩=some (.slice A' fs.length c')/\Rq W3 B A es/\Rq W3 B A' fs) :=
     fun V W3 hV hJ3 hk3=>⟨k+1,by simp,by omega,hJ3,(hk3 _ (.inl rfl)).trans ((hV.cell (p:=⟨Bx,0,none⟩) klx).trans cx),(hk3 _ (.inr (.inl rfl))).trans ((hV.cell (p:=⟨By,0,none⟩) kly).trans cy),(rx.grow hV).keepAt (fun p hp=>.inr (.inr hp)) hk3,(ry.grow hV).keepAt (fun p hp=>.inr (.inr hp)) hk3⟩
    have NEXT:=Hd next
    have HEND:=Hd hlt
    have CX:=Hd (fun (V:World) (hV:Below wr.heap.size wr V)=>(hV.cell (p:=⟨Bx,0,none⟩) klx).trans cx)
    have CY:=Hd (fun (V:World) (hV:Below wr.heap.size wr V)=>(hV.cell (p:=⟨By,0,none⟩) kly).trans cy)
    clear next rx ry cx cy hlt klx kly
    obtain ⟨X,hX⟩:∃X,(es.getD k E4.z).v=X:=⟨_,rfl⟩
    obtain ⟨Y,hY⟩:∃Y,(fs.getD k E4.z).v=Y:=⟨_,rfl⟩
    unfold vpairE at HJ
    rw[hX]at HX HJ
    rw[hY]at HY HJ
    clear hX hY
    gi_wp2_with fail
    refine wpIn_region_any follows ?_
    refine wpAnyIn_take (i:=0) (v:=.func (.yield l) #[] #[]) rfl rfl (by kernel_rfl) (by kernel_rfl) (by kernel_rfl) (fun _ _ _ h=>h) ⟨Or.inl ⟨by rfl,fun w=>by go_simp⟩,fun _=>rfl⟩ ?_
    refine wpAnyIn_take (i:=2) (v:=.int .i64 (k:Int)) rfl rfl (by kernel_rfl) (by kernel_rfl) (by kernel_rfl) (fun _ _ _ h=>h) ⟨Or.inl ⟨by rfl,fun w=>by go_simp⟩,fun _=>rfl⟩ ?_
    refine wpAnyIn_take (i:=5) (v:=.int .i64 (k:Int)) rfl rfl (by kernel_rfl) (by kernel_rfl) (by kernel_rfl) (fun _ _ _ h=>h) ⟨Or.inl ⟨by rfl,fun w=>by go_simp⟩,fun _=>rfl⟩ ?_
    refine dagInE 6 #[true,false,true,false,false,true,false,false,false] ⟨#[.func (.yield l) #[] #[],.pointer (some ⟨Bx,0,none⟩),.pointer (some ⟨By,0,none⟩),undef,.int .i64 (k:Int),.slice A es.length c,.int .i64 (es.length:Int),.slice A' fs.length c',.int .i64 (fs.length:Int),.int .i64 (max (es.length:Int) (fs.length:Int)),.int .i64 (k:Int),.bool true,.int .i64 (k:Int),.func (.yield l) #[] #[],u14,.int .i64 (k:Int),u16,u17,.int .i64 (k:Int),u19,u20,u21,u22],[]⟩ (by kernel_rfl) (by kernel_rfl) (by rfl) (fun G up dn=>?_)
    have S1346:∀V,Below wr.heap.size wr V->G 2 #[true,true,true,true,true,true,true,false,false] ⟨#[.func (.yield l) #[] #[],.pointer (some ⟨Bx,0,none⟩),.pointer (some ⟨By,0,none⟩),undef,.int .i64 (k:Int),.slice A es.length c,.int .i64 (es.length:Int),.slice A' fs.length c',.int .i64 (fs.length:Int),.int .i64 (max (es.length:Int) (fs.length:Int)),.int .i64 (k:Int),.bool true,.int .i64 (k:Int),.func (.yield l) #[] #[],.slice A es.length c,.int .i64 (k:Int),X,.slice A' fs.length c',.int .i64 (k:Int),Y,u20,u21,u22],[]⟩ V:=by
     intro V hV
     refine up ?_
     obtain ⟨fn,tmps,assign,body,hyy,hR⟩:=HJ.out V hV
     refine rdyI (i:=7) (by kernel_rfl) rfl (fun K hK=>?_)
     go_simp
     gi_wp2
     refine hR.mono ?_
     rintro e W3 (⟨rfl,hJ3,hk3⟩|⟨rfl,hJx3⟩)
     .refine hK _ _ ?_
      clear hK K
      refine rdyI (i:=8) (by kernel_rfl) rfl (fun K hK=>?_)
      go_simp
      refine hK _ _ ?_
      clear hK K
      refine wpAnyIn_done (by kernel_rfl) ?_ _
      gi_wp2
      go_roundw
      case rel=>exact NEXT.out V W3 hV hJ3 hk3
      case measure=>have:=HEND.out;simp[intOf];omega
     .refine hK _ _ ?_
      clear hK K
      refine rdyI (i:=8) (by kernel_rfl) rfl (fun K hK=>?_)
      go_simp
      refine hK _ _ ?_
      clear hK K
      refine wpAnyIn_done (by kernel_rfl) ?_ _
      gi_wp2
      refine bodyPost_ret (results_none rfl _ _ _) rfl ?_
      exact ⟨⟨_,rfl⟩,.inr ⟨k,HEND.out,hJx3⟩⟩
    have S134:∀V,Below wr.heap.size wr V->G 3 #[true,true,true,true,true,true,false,false,false] ⟨#[.func (.yield l) #[] #[],.pointer (some ⟨Bx,0,none⟩),.pointer (some ⟨By,0,none⟩),undef,.int .i64 (k:Int),.slice A es.length c,.int .i64 (es.length:Int),.slice A' fs.length c',.int .i64 (fs.length:Int),.int .i64 (max (es.length:Int) (fs.length:Int)),.int .i64 (k:Int),.bool true,.int .i64 (k:Int),.func (.yield l) #[] #[],.slice A es.length c,.int .i64 (k:Int),X,.slice A' fs.length c',.int .i64 (k:Int),u19,u20,u21,u22],[]⟩ V:=by
     intro V hV
     refine up ?_
     refine rdyI (i:=6) (by kernel_rfl) rfl (fun K hK=>?_)
     go_simp
     gi_wp2_with (refine ⟨trivial,?_⟩;gi_at_call 79;refine (callsIn_wide.2 (HY.out V hV)).mono ?_;rintro e w' ⟨rfl,bb⟩)
     exact dn (S1346 _ (Bxb hV bb))
    have S14:∀V,Below wr.heap.size wr V->G 4 #[true,true,true,false,true,true,false,false,false] ⟨#[.func (.yield l) #[] #[],.pointer (some ⟨Bx,0,none⟩),.pointer (some ⟨By,0,none⟩),undef,.int .i64 (k:Int),.slice A es.length c,.int .i64 (es.length:Int),.slice A' fs.length c',.int .i64 (fs.length:Int),.int .i64 (max (es.length:Int) (fs.length:Int)),.int .i64 (k:Int),.bool true,.int .i64 (k:Int),.func (.yield l) #[] #[],.slice A es.length c,.int .i64 (k:Int),u16,.slice A' fs.length c',.int .i64 (k:Int),u19,u20,u21,u22],[]⟩ V:=by
     intro V hV
     refine up ?_
     refine rdyI (i:=3) (by kernel_rfl) rfl (fun K hK=>?_)
     go_simp
     gi_wp2_with (refine ⟨trivial,?_⟩;gi_at_call 79;refine (callsIn_wide.2 (HX.out V hV)).mono ?_;rintro e w' ⟨rfl,bb⟩)
     exact dn (S134 _ (Bxb hV bb))
    have S13:∀V,Below wr.heap.size wr V->G 4 #[true,true,true,true,false,true,false,false,false] ⟨#[.func (.yield l) #[] #[],.pointer (some ⟨Bx,0,none⟩),.pointer (some ⟨By,0,none⟩),undef,.int .i64 (k:Int),.slice A es.length c,.int .i64 (es.length:Int),.slice A' fs.length c',.int .i64 (fs.length:Int),.int .i64 (max (es.length:Int) (fs.length:Int)),.int .i64 (k:Int),.bool true,.int .i64 (k:Int),.func (.yield l) #[] #[],.slice A es.length c,.int .i64 (k:Int),X,u17,.int .i64 (k:Int),u19,u20,u21,u22],[]⟩ V:=by
     intro V hV
     refine up ?_
     refine rdyI (i:=4) (by kernel_rfl) rfl (fun K hK=>?_)
     have cc:=CY.out V hV
     go_simp
     refine hK _ _ ?_
     exact dn (S134 V hV)
    have S1:∀V,Below wr.heap.size wr V->G 5 #[true,true,true,false,false,true,false,false,false] ⟨#[.func (.yield l) #[] #[],.pointer (some ⟨Bx,0,none⟩),.pointer (some ⟨By,0,none⟩),undef,.int .i64 (k:Int),.slice A es.length c,.int .i64 (es.length:Int),.slice A' fs.length c',.int .i64 (fs.length:Int),.int .i64 (max (es.length:Int) (fs.length:Int)),.int .i64 (k:Int),.bool true,.int .i64 (k:Int),.func (.yield l) #[] #[],.slice A es.length c,.int .i64 (k:Int),u16,u17,.int .i64 (k:Int),u19,u20,u21,u22],[]⟩ V:=by
     intro V hV
     refine up ?_
     refine wpAnyIn_ready (rs:=[3,4]) (by kernel_rfl) (by simp) (AllReadyIn.cons rfl (fun K hK=>?_) (AllReadyIn.cons rfl (fun K hK=>?_) AllReadyIn.nil))
     .go_simp
      gi_wp2_with (refine ⟨trivial,?_⟩;gi_at_call 79;refine (callsIn_wide.2 (HX.out V hV)).mono ?_;rintro e w' ⟨rfl,bb⟩)
      exact dn (S13 _ (Bxb hV bb))
     .have cc:=CY.out V hV
      go_simp
      refine hK _ _ ?_
      exact dn (S14 V hV)
    have S4:∀V,Below wr.heap.size wr V->G 5 #[true,false,true,false,true,true,false,false,false] ⟨#[.func (.yield l) #[] #[],.pointer (some ⟨Bx,0,none⟩),.pointer (some ⟨By,0,none⟩),undef,.int .i64 (k:Int),.slice A es.length c,.int .i64 (es.length:Int),.slice A' fs.length c',.int .i64 (fs.length:Int),.int .i64 (max (es.length:Int) (fs.length:Int)),.int .i64 (k:Int),.bool true,.int .i64 (k:Int),.func (.yield l) #[] #[],u14,.int .i64 (k:Int),u16,.slice A' fs.length c',.int .i64 (k:Int),u19,u20,u21,u22],[]⟩ V:=by
     intro V hV
     refine up ?_
     refine rdyI (i:=1) (by kernel_rfl) rfl (fun K hK=>?_)
     have cc:=CX.out V hV
     go_simp
     refine hK _ _ ?_
     exact dn (S14 V hV)
    have S:∀V,Below wr.heap.size wr V->G 6 #[true,false,true,false,false,true,false,false,false] ⟨#[.func (.yield l) #[] #[],.pointer (some ⟨Bx,0,none⟩),.pointer (some ⟨By,0,none⟩),undef,.int .i64 (k:Int),.slice A es.length c,.int .i64 (es.length:Int),.slice A' fs.length c',.int .i64 (fs.length:Int),.int .i64 (max (es.length:Int) (fs.length:Int)),.int .i64 (k:Int),.bool true,.int .i64 (k:Int),.func (.yield l) #[] #[],u14,.int .i64 (k:Int),u16,u17,.int .i64 (k:Int),u19,u20,u21,u22],[]⟩ V:=by
     intro V hV
     refine up ?_
     refine wpAnyIn_ready (rs:=[1,4]) (by kernel_rfl) (by simp) (AllReadyIn.cons rfl (fun K hK=>?_) (AllReadyIn.cons rfl (fun K hK=>?_) AllReadyIn.nil))
     .have cc:=CX.out V hV
      go_simp
      refine hK _ _ ?_
      exact dn (S1 V hV)
     .have cc:=CY.out V hV
      go_simp
      refine hK _ _ ?_
      exact dn (S4 V hV)
    exact S _ (Below.refl _ _).drew
   .obtain rfl:k=fs.length:=by omega
    gi_wp2
    go_end0
    exact ⟨⟨_,rfl⟩,.inl hJ⟩
end Go.Proofs.YtiifpobhmnplaaaGreat

namespace Go.Proofs.YtiifpobhmnplaaaGreat
open Go.RowKit Go.Shelf
attribute [local go_sem] Oper.semAt_some
theorem wpListIn_makeq {F:Fence}{n:Nat}(w:World){ops:Array Oper}{rest:List Oper}{o:Oper}{a:Act}{Q:Exit->Act->World->Prop}
  (hg:o.guard=none) (l c:Operand) (hop:o.op=Op.makeSlice 27 l c) (N C:Nat) {L D:Int} (hl:a.eval l=.int .i64 L) (hc:a.eval c=.int .i64 D) (hL:L=(N:Int)) (hC:D=(C:Int)) (h1:N<=C) (h2:C<=4398046511104)
  (hK:wpListIn F n Tryz.prog ops Q rest (a.put o.dst (.slice (some ⟨w.heap.size,0,none⟩) N C)) (w.alloc (.cells (flat (List.replicate C E4.z)).toArray 26))) :
  wpListIn F n Tryz.prog ops Q (o::rest) a w:=by
 refine wpListIn_plain hg fun K hK'=>?_
 have hrun:=make_q w N C h1 h2
 subst hL
 subst hC
 unfold Oper.wpIn
 refine ⟨?_,?_⟩
 .simp[Oper.about,hop]
 .rw[Oper.semAt_plain F _ _ (by rw[hop];intro c hc';cases hc')]
  simp[execOp,hop,hl,hc,hrun,Result.andThen]
  exact hK' _ _ hK
theorem wpList_makeq (w:World){ops:Array Oper}{rest:List Oper}{o:Oper}{a:Act}{Q:Exit->Act->World->Prop}
  (hg:o.guard=none) (l c:Operand) (hop:o.op=Op.makeSlice 27 l c) (N C:Nat) {L D:Int} (hl:a.eval l=.int .i64 L) (hc:a.eval c=.int .i64 D) (hL:L=(N:Int)) (hC:D=(C:Int)) (h1:N<=C) (h2:C<=4398046511104)
  (hK:wpList Tryz.prog ops Q rest (a.put o.dst (.slice (some ⟨w.heap.size,0,none⟩) N C)) (w.alloc (.cells (flat (List.replicate C E4.z)).toArray 26))) :
  wpList Tryz.prog ops Q (o::rest) a w:=by
 refine wpList_plain hg fun K hK'=>?_
 have hrun:=make_q w N C h1 h2
 subst hL
 subst hC
 unfold Oper.wp
 simp[execOp,hop,hl,hc,hrun,Result.andThen]
 exact hK' _ _ hK
def Hp (W:World)(g:Nat)(o:Obj):Prop:=W.heap[g]?=some o
section
variable {W V : World} {g : Nat} {o : Obj}
theorem Hp.lt (h:Hp W g o):g<W.heap.size:=(Array.getElem?_eq_some_iff.1 h).1
theorem Hp.to (h:Hp W g o)(hb:Below W.heap.size W V):Hp V g o:=(hb.block g h.lt).trans h
theorem Hp.new (W:World)(cs:Array Value)(t:TypeId):Hp (W.alloc (.cells cs t)) W.heap.size (.cells cs t (0,0)):=World.alloc_heap_new W _
theorem Hp.alloc (h:Hp W g o)(p:Obj):Hp (W.alloc p) g o:=h.to ((Below.refl _ _).alloc (Nat.le_refl _) _)
theorem Hp.four {a b c d:Value}{t:TypeId}(h:Hp W g (.cells #[a,b,c,d] t (0,0))):Four W g a b c d:=Four.of h
theorem Hp.one {a:Value}{t:TypeId}(h:Hp W g (.cells #[a] t (0,0))):W.cell? ⟨g,0,none⟩=some a:=Boxed.cell (t:=t) h
theorem Hp.grown {row:Option Nat}(h:Hp W g o)(hg:W.grownBy V row)(hr:∀r,row=some r->∃o:Obj,W.heap[r]?=some o/\o.isCells=false)(ho:o.isCells=true):Hp V g o :=
 (grownBy_keeps_cells hg hr h ho).trans h
theorem Kw.grown {row:Option Nat}(hg:W.grownBy V row)(hr:∀r,row=some r->∃o:Obj,W.heap[r]?=some o/\o.isCells=false):Kw W V :=
 ⟨hg.size,fun _ _ hp=>cell_kept hp hg hr⟩
theorem Row.grown {es:List E4}{row:Option Nat}(h:Row W g es)(hg:W.grownBy V row)(hr:∀r,row=some r->∃o:Obj,W.heap[r]?=some o/\o.isCells=false):Row V g es :=
 ⟨(grownBy_keeps_cells hg hr h.heap rfl).trans h.heap,h.fq⟩
end
structure Acc (W:World)(H g N k:Nat)(f:Nat->Rat):Prop where
 box:Hp W H (.cells #[.slice (some ⟨g,0,none⟩) k N] 27 (0,0))
 row:∃fl,Row W g fl/\fl.length=N/\∀i,i<k->Qc W (fl.getD i E4.z).a (fl.getD i E4.z).b (fl.getD i E4.z).c (fl.getD i E4.z).d (f i)
section
variable {W V : World} {H g N k : Nat} {f : Nat -> Rat}
theorem Acc.to (h:Acc W H g N k f)(hb:Below W.heap.size W V):Acc V H g N k f:=by
 obtain ⟨fl,h1,h2,h3⟩:=h.row
 exact ⟨h.box.to hb,fl,h1.to hb,h2,fun i hi=>(h3 i hi).to hb⟩
theorem Acc.grown {row:Option Nat}(h:Acc W H g N k f)(hg:W.grownBy V row)(hr:∀r,row=some r->∃o:Obj,W.heap[r]?=some o/\o.isCells=false):Acc V H g N k f:=by
 obtain ⟨fl,h1,h2,h3⟩:=h.row
 exact ⟨h.box.grown hg hr rfl,fl,h1.grown hg hr,h2,fun i hi=>(Kw.grown hg hr).qc (h3 i hi)⟩
theorem Acc.more (h:Acc W H g N k f)(hk:k<N)(hne:H≠g){e:E4}(he:e.fq)(hq:Qc W e.a e.b e.c e.d (f k)){a:Addr}{c:Nat}
  (h0:W.cell? (a.add 0)=some e.a) (h1:W.cell? (a.add 1)=some e.b) (h2:W.cell? (a.add 2)=some e.c) (h3:W.cell? (a.add 3)=some e.d) (ty:TypeId) :
  ∃X,(Builtin.append_ #[27,27] ty #[.slice (some ⟨g,0,none⟩) k N,.slice (some a) 1 c]).run Tryz.prog W=.ok (.slice (some ⟨g,0,none⟩) (k+1) N) X /\
   Hp X H (.cells #[.slice (some ⟨g,0,none⟩) k N] 27 (0,0)) /\
   Acc (X.setCell ⟨H,0,none⟩ (.slice (some ⟨g,0,none⟩) (k+1) N)) H g N (k+1) f /\
   (X.setCell ⟨H,0,none⟩ (.slice (some ⟨g,0,none⟩) (k+1) N)).heap.size=W.heap.size /\
   (∀j,j≠g->j≠H->(X.setCell ⟨H,0,none⟩ (.slice (some ⟨g,0,none⟩) (k+1) N)).heap[j]?=W.heap[j]?) /\
   (∀B,B<=g->B<=H->Below B W (X.setCell ⟨H,0,none⟩ (.slice (some ⟨g,0,none⟩) (k+1) N))):=by
 obtain ⟨fl,r1,rfl,r3⟩:=h.row
 have hr:=append_q r1 hk he h0 h1 h2 h3 (c:=c) ty
 have hrow:=r1.app (n:=k) he
 have kw1:Kw W (W.setRow g (flat (fl.set k e)).toArray):=r1.kw
 obtain ⟨X,hX⟩:∃X,W.setRow g (flat (fl.set k e)).toArray=X:=⟨_,rfl⟩
 have hsz:X.heap.size=W.heap.size:=by rw[<-hX,setRow_size]
 have hoth:∀j,j≠g->X.heap[j]?=W.heap[j]?:=fun j hj=>by rw[<-hX,setRow_other _ _ _ _ hj]
 have hbel:∀B,B<=g->Below B W X:=fun B hB=>by rw[<-hX];exact below_setRow (Below.refl _ _) hB _
 rw[hX]at hr hrow kw1
 have hbox:Hp X H (.cells #[.slice (some ⟨g,0,none⟩) k fl.length] 27 (0,0)):=(hoth H hne).trans h.box
 have hset:∀j,j≠H->(X.setCell ⟨H,0,none⟩ (.slice (some ⟨g,0,none⟩) (k+1) fl.length)).heap[j]?=X.heap[j]?:=fun j hj=>Below.heap_setCell X ⟨H,0,none⟩ _ j hj
 have kw2:Kw W (X.setCell ⟨H,0,none⟩ (.slice (some ⟨g,0,none⟩) (k+1) fl.length)):=kw1.setCell hbox.one (fun n hn=>by cases hn) _
 refine ⟨X,hr,hbox,⟨Boxed.set (W:=X) _ hbox,fl.set k e,hrow.keep (hset g (Ne.symm hne)),by simp,fun i hi=>?_⟩,by simpa [World.setCell]using hsz,fun j h1 h2=>(hset j h2).trans (hoth j h1),fun B h1 h2=>(hbel B h1).setCell (p:=⟨H,0,none⟩) h2 _⟩
 by_cases hik:i=k
 .subst hik
  rw[show (fl.set i e).getD i E4.z=e from by simp[List.getD,hk]]
  exact kw2.qc hq
 .rw[show (fl.set k e).getD i E4.z=fl.getD i E4.z from by simp[List.getD,List.getElem?_set,Ne.symm hik]]
  exact kw2.qc (r3 i (by omega))
end
end Go.Proofs.YtiifpobhmnplaaaGreat
