/- Parts: 6. -/
import Derived.Test.YtglhdielkkhefaaGreatMs12
import Derived.Test.YtglhdielkkhefaaGreatMs17
set_option linter.unusedVariables false
set_option linter.unusedSimpArgs false
set_option maxRecDepth 100000
set_option maxHeartbeats 40000000

namespace Go.Proofs.YtglhdielkkhefaaGreat
open Go.RowKit Go.Shelf
attribute [local go_sem] Oper.semAt_some
def vpairE (es fs:List E4)(k:Nat):Array Value:=#[(es.getD k E4.z).v,(fs.getD k E4.z).v]
theorem Rq.keepAt {w w':World}{B:Nat}{S:Addr->Prop}{A:Option Addr}{es:List E4}(h:Rq w B A es)(hS:∀p:Addr,p.block<B->S p)(hk:KeepAt S w w'):Rq w' B A es:=by
 intro k hk'
 obtain ⟨b,o,rfl,hb,h0,h1,h2,h3⟩:=h k hk'
 exact ⟨b,o,rfl,hb,(hk ⟨b,_,none⟩ (hS ⟨b,_,none⟩ hb)).trans h0,(hk ⟨b,_,none⟩ (hS ⟨b,_,none⟩ hb)).trans h1,(hk ⟨b,_,none⟩ (hS ⟨b,_,none⟩ hb)).trans h2,(hk ⟨b,_,none⟩ (hS ⟨b,_,none⟩ hb)).trans h3⟩
theorem dagInE {F:Fence}{n:Nat}{P:Program}{md:Region.Mode}{ops:Array Oper}{Q:Exit->Act->World->Prop}(k:Nat)(l:Array Bool)(a:Act){k':Nat}{l':Array Bool}{a':Act}{w:World}(hk:k'=k)(hl:l'=l)(ha:a'=a)
  (h:∀G:Nat->Array Bool->Act->World->Prop,(∀{k l a w},wpAnyIn F n P md ops Q k l a w->G k l a w)->(∀{k l a w},G k l a w->wpAnyIn F n P md ops Q k l a w)->G k l a w):wpAnyIn F n P md ops Q k' l' a' w:=by
 subst hk hl ha
 exact h _ (fun h=>h) (fun h=>h)
theorem vpairs_gives (Bx By B c c':Nat)(A A':Option Addr)(es fs:List E4)(hx63:es.length<=9223372036854775807)(hy63:fs.length<=9223372036854775807)(W:World)
  (hbx:W.cell? ⟨Bx,0,none⟩=some (.slice A es.length c)) (hby:W.cell? ⟨By,0,none⟩=some (.slice A' fs.length c')) (hx:Rq W B A es) (hy:Rq W B A' fs) (qx:∀e∈es,e.fq) (qy:∀e∈fs,e.fq) :
  GivesB Tryz.prog 115 #[.pointer (some ⟨Bx,0,none⟩),.pointer (some ⟨By,0,none⟩)] (max es.length fs.length) (vpairE es fs) (pairS Bx By B) W:=by
 intro l J Jx hst hY h0
 refine callsIn_of_wp Tryz.func115 rfl trivial ?_ rfl
 simp only[Tryz.ntmps115,List.size_toArray,List.length_cons,List.length_nil,Nat.reduceAdd,Nat.reduceSub,Array.replicate_succ,Array.replicate_zero,List.push_toArray,List.append_toArray,List.nil_append,List.cons_append]
 obtain ⟨N,hN⟩:∃N,max es.length fs.length=N:=⟨_,rfl⟩
 have hN63:N<=9223372036854775807:=by omega
 rw[hN]at hY ⊢
 have HN:=Hd hN
 have HST:=Hd hst
 have HYY:=Hd hY
 have QX:=Hd qx
 have QY:=Hd qy
 have HX63:=Hd hx63
 have HY63:=Hd hy63
 clear hst hY qx qy
 rcases Nat.lt_or_ge es.length fs.length with hle|hle
 rotate_left
 .obtain rfl:N=es.length:=by omega
  clear hN
  gi_wp2
  gi_loopw [10] (fun i wr=>∃k:Nat,i=.int .i64 k/\k<=es.length/\J k wr/\wr.cell? ⟨Bx,0,none⟩=some (.slice A es.length c)/\wr.cell? ⟨By,0,none⟩=some (.slice A' fs.length c')/\Rq wr B A es/\Rq wr B A' fs)
   (fun i _=>es.length-(intOf i).toNat)
  case atStart=>exact ⟨0,rfl,Nat.zero_le _,h0,hbx,hby,hx,hy⟩
  case round =>
   obtain ⟨k,rfl,hk,hJ,cx,cy,rx,ry⟩:=hrel
   clear hbx hby hx hy h0
   have klx:Bx<wr.heap.size:=World.block_lt_of_cell? wr _ cx
   have kly:By<wr.heap.size:=World.block_lt_of_cell? wr _ cy
   by_cases hlt:k<es.length
   .have hlt':(k:Int)<(es.length:Nat):=by omega
    have hdec:decide ((k:Int)<max (es.length:Int) (fs.length:Int))=true:=decide_eq_true (by omega)
    have HX:=Hd (fun (V:World) (hV:Below wr.heap.size wr V)=>at_v (c:=c) (k:=k) (rx.grow hV) QX.out HX63.out)
    have HY:=Hd (fun (V:World) (hV:Below wr.heap.size wr V)=>at_v (c:=c') (k:=k) (ry.grow hV) QY.out HY63.out)
    have HJ:=Hd (fun (V:World) (hV:Below wr.heap.size wr V)=>HYY.out k V hlt (HST.out k _ _ hJ hV))
    have next:∀V W3,Below wr.heap.size wr V->J (k+1) W3->KeepAt (pairS Bx By B) V W3->(∃k':Nat,(Value.int .i64 ((k:Int)+1))=.int .i64 k'/\k'<=es.length/\J k' W3/\W3.cell? ⟨Bx,0,none⟩=some (.slice A es.length c)/\W3.cell? ⟨By,0,none⟩=some (.slice A' fs.length c')/\Rq W3 B A es/\Rq W3 B A' fs) :=
     fun V W3 hV hJ3 hk3=>⟨k+1,by simp,by omega,hJ3,(hk3 _ (.inl rfl)).trans ((hV.cell (p:=⟨Bx,0,none⟩) klx).trans cx),(hk3 _ (.inr (.inl rfl))).trans ((hV.cell (p:=⟨By,0,none⟩) kly).trans cy),(rx.grow hV).keepAt (fun p hp=>.inr (.inr hp)) hk3,(ry.grow hV).keepAt (fun p hp=>.inr (.inr hp)) hk3⟩
    have NEXT:=Hd next
    have HEND:=Hd hlt
    have CX:=Hd (fun (V:World) (hV:Below wr.heap.size wr V)=>(hV.cell (p:=⟨Bx,0,none⟩) klx).trans cx)
    have CY:=Hd (fun (V:World) (hV:Below wr.heap.size wr V)=>(hV.cell (p:=⟨By,0,none⟩) kly).trans cy)
    clear next rx ry cx cy hlt klx kly
    obtain ⟨X,hX⟩:∃X,(es.getD k E4.z).v=X:=⟨_,rfl⟩
    obtain ⟨Y,hY⟩:∃Y,(fs.getD k E4.z).v=Y:=⟨_,rfl⟩
    unfold vpairE at HJ
    rw[hX]at HX HJ
    rw[hY]at HY HJ
    clear hX hY
    gi_wp2_with fail
    refine wpIn_region_any follows ?_
    refine wpAnyIn_take (i:=0) (v:=.func (.yield l) #[] #[]) rfl rfl (by kernel_rfl) (by kernel_rfl) (by kernel_rfl) (fun _ _ _ h=>h) ⟨Or.inl ⟨by rfl,fun w=>by go_simp⟩,fun _=>rfl⟩ ?_
    refine wpAnyIn_take (i:=2) (v:=.int .i64 (k:Int)) rfl rfl (by kernel_rfl) (by kernel_rfl) (by kernel_rfl) (fun _ _ _ h=>h) ⟨Or.inl ⟨by rfl,fun w=>by go_simp⟩,fun _=>rfl⟩ ?_
    refine wpAnyIn_take (i:=5) (v:=.int .i64 (k:Int)) rfl rfl (by kernel_rfl) (by kernel_rfl) (by kernel_rfl) (fun _ _ _ h=>h) ⟨Or.inl ⟨by rfl,fun w=>by go_simp⟩,fun _=>rfl⟩ ?_
    refine dagInE 6 #[true,false,true,false,false,true,false,false,false] ⟨#[.func (.yield l) #[] #[],.pointer (some ⟨Bx,0,none⟩),.pointer (some ⟨By,0,none⟩),undef,.int .i64 (k:Int),.slice A es.length c,.int .i64 (es.length:Int),.slice A' fs.length c',.int .i64 (fs.length:Int),.int .i64 (max (es.length:Int) (fs.length:Int)),.int .i64 (k:Int),.bool true,.int .i64 (k:Int),.func (.yield l) #[] #[],u14,.int .i64 (k:Int),u16,u17,.int .i64 (k:Int),u19,u20,u21,u22],[]⟩ (by kernel_rfl) (by kernel_rfl) (by rfl) (fun G up dn=>?_)
    have S1346:∀V,Below wr.heap.size wr V->G 2 #[true,true,true,true,true,true,true,false,false] ⟨#[.func (.yield l) #[] #[],.pointer (some ⟨Bx,0,none⟩),.pointer (some ⟨By,0,none⟩),undef,.int .i64 (k:Int),.slice A es.length c,.int .i64 (es.length:Int),.slice A' fs.length c',.int .i64 (fs.length:Int),.int .i64 (max (es.length:Int) (fs.length:Int)),.int .i64 (k:Int),.bool true,.int .i64 (k:Int),.func (.yield l) #[] #[],.slice A es.length c,.int .i64 (k:Int),X,.slice A' fs.length c',.int .i64 (k:Int),Y,u20,u21,u22],[]⟩ V:=by
     intro V hV
     refine up ?_
     obtain ⟨fn,tmps,assign,body,hyy,hR⟩:=HJ.out V hV
     refine rdyI (i:=7) (by kernel_rfl) rfl (fun K hK=>?_)
     go_simp
     gi_wp2
     refine hR.mono ?_
     rintro e W3 (⟨rfl,hJ3,hk3⟩|⟨rfl,hJx3⟩)
     .refine hK _ _ ?_
      clear hK K
      refine rdyI (i:=8) (by kernel_rfl) rfl (fun K hK=>?_)
      go_simp
      refine hK _ _ ?_
      clear hK K
      refine wpAnyIn_done (by kernel_rfl) ?_ _
      gi_wp2
      go_roundw
      case rel=>exact NEXT.out V W3 hV hJ3 hk3
      case measure=>have:=HEND.out;simp[intOf];omega
     .refine hK _ _ ?_
      clear hK K
      refine rdyI (i:=8) (by kernel_rfl) rfl (fun K hK=>?_)
      go_simp
      refine hK _ _ ?_
      clear hK K
      refine wpAnyIn_done (by kernel_rfl) ?_ _
      gi_wp2
      refine bodyPost_ret (results_none rfl _ _ _) rfl ?_
      exact ⟨⟨_,rfl⟩,.inr ⟨k,HEND.out,hJx3⟩⟩
    have S134:∀V,Below wr.heap.size wr V->G 3 #[true,true,true,true,true,true,false,false,false] ⟨#[.func (.yield l) #[] #[],.pointer (some ⟨Bx,0,none⟩),.pointer (some ⟨By,0,none⟩),undef,.int .i64 (k:Int),.slice A es.length c,.int .i64 (es.length:Int),.slice A' fs.length c',.int .i64 (fs.length:Int),.int .i64 (max (es.length:Int) (fs.length:Int)),.int .i64 (k:Int),.bool true,.int .i64 (k:Int),.func (.yield l) #[] #[],.slice A es.length c,.int .i64 (k:Int),X,.slice A' fs.length c',.int .i64 (k:Int),u19,u20,u21,u22],[]⟩ V:=by
     intro V hV
     refine up ?_
     refine rdyI (i:=6) (by kernel_rfl) rfl (fun K hK=>?_)
     go_simp
     gi_wp2_with (refine ⟨trivial,?_⟩;gi_at_call 116;refine (callsIn_wide.2 (HY.out V hV)).mono ?_;rintro e w' ⟨rfl,bb⟩)
     exact dn (S1346 _ (Bxb hV bb))
    have S14:∀V,Below wr.heap.size wr V->G 4 #[true,true,true,false,true,true,false,false,false] ⟨#[.func (.yield l) #[] #[],.pointer (some ⟨Bx,0,none⟩),.pointer (some ⟨By,0,none⟩),undef,.int .i64 (k:Int),.slice A es.length c,.int .i64 (es.length:Int),.slice A' fs.length c',.int .i64 (fs.length:Int),.int .i64 (max (es.length:Int) (fs.length:Int)),.int .i64 (k:Int),.bool true,.int .i64 (k:Int),.func (.yield l) #[] #[],.slice A es.length c,.int .i64 (k:Int),u16,.slice A' fs.length c',.int .i64 (k:Int),u19,u20,u21,u22],[]⟩ V:=by
     intro V hV
     refine up ?_
     refine rdyI (i:=3) (by kernel_rfl) rfl (fun K hK=>?_)
     go_simp
     gi_wp2_with (refine ⟨trivial,?_⟩;gi_at_call 116;refine (callsIn_wide.2 (HX.out V hV)).mono ?_;rintro e w' ⟨rfl,bb⟩)
     exact dn (S134 _ (Bxb hV bb))
    have S13:∀V,Below wr.heap.size wr V->G 4 #[true,true,true,true,false,true,false,false,false] ⟨#[.func (.yield l) #[] #[],.pointer (some ⟨Bx,0,none⟩),.pointer (some ⟨By,0,none⟩),undef,.int .i64 (k:Int),.slice A es.length c,.int .i64 (es.length:Int),.slice A' fs.length c',.int .i64 (fs.length:Int),.int .i64 (max (es.length:Int) (fs.length:Int)),.int .i64 (k:Int),.bool true,.int .i64 (k:Int),.func (.yield l) #[] #[],.slice A es.length c,.int .i64 (k:Int),X,u17,.int .i64 (k:Int),u19,u20,u21,u22],[]⟩ V:=by
     intro V hV
     refine up ?_
     refine rdyI (i:=4) (by kernel_rfl) rfl (fun K hK=>?_)
     have cc:=CY.out V hV
     go_simp
     refine hK _ _ ?_
     exact dn (S134 V hV)
    have S1:∀V,Below wr.heap.size wr V->G 5 #[true,true,true,false,false,true,false,false,false] ⟨#[.func (.yield l) #[] #[],.pointer (some ⟨Bx,0,none⟩),.pointer (some ⟨By,0,none⟩),undef,.int .i64 (k:Int),.slice A es.length c,.int .i64 (es.length:Int),.slice A' fs.length c',.int .i64 (fs.length:Int),.int .i64 (max (es.length:Int) (fs.length:Int)),.int .i64 (k:Int),.bool true,.int .i64 (k:Int),.func (.yield l) #[] #[],.slice A es.length c,.int .i64 (k:Int),u16,u17,.int .i64 (k:Int),u19,u20,u21,u22],[]⟩ V:=by
     intro V hV
     refine up ?_
     refine wpAnyIn_ready (rs:=[3,4]) (by kernel_rfl) (by simp) (AllReadyIn.cons rfl (fun K hK=>?_) (AllReadyIn.cons rfl (fun K hK=>?_) AllReadyIn.nil))
     .go_simp
      gi_wp2_with (refine ⟨trivial,?_⟩;gi_at_call 116;refine (callsIn_wide.2 (HX.out V hV)).mono ?_;rintro e w' ⟨rfl,bb⟩)
      exact dn (S13 _ (Bxb hV bb))
     .have cc:=CY.out V hV
      go_simp
      refine hK _ _ ?_
      exact dn (S14 V hV)
    have S4:∀V,Below wr.heap.size wr V->G 5 #[true,false,true,false,true,true,false,false,false] ⟨#[.func (.yield l) #[] #[],.pointer (some ⟨Bx,0,none⟩),.pointer (some ⟨By,0,none⟩),undef,.int .i64 (k:Int),.slice A es.length c,.int .i64 (es.length:Int),.slice A' fs.length c',.int .i64 (fs.length:Int),.int .i64 (max (es.length:Int) (fs.length:Int)),.int .i64 (k:Int),.bool true,.int .i64 (k:Int),.func (.yield l) #[] #[],u14,.int .i64 (k:Int),u16,.slice A' fs.length c',.int .i64 (k:Int),u19,u20,u21,u22],[]⟩ V:=by
     intro V hV
     refine up ?_
     refine rdyI (i:=1) (by kernel_rfl) rfl (fun K hK=>?_)
     have cc:=CX.out V hV
     go_simp
     refine hK _ _ ?_
     exact dn (S14 V hV)
    have S:∀V,Below wr.heap.size wr V->G 6 #[true,false,true,false,false,true,false,false,false] ⟨#[.func (.yield l) #[] #[],.pointer (some ⟨Bx,0,none⟩),.pointer (some ⟨By,0,none⟩),undef,.int .i64 (k:Int),.slice A es.length c,.int .i64 (es.length:Int),.slice A' fs.length c',.int .i64 (fs.length:Int),.int .i64 (max (es.length:Int) (fs.length:Int)),.int .i64 (k:Int),.bool true,.int .i64 (k:Int),.func (.yield l) #[] #[],u14,.int .i64 (k:Int),u16,u17,.int .i64 (k:Int),u19,u20,u21,u22],[]⟩ V:=by
     intro V hV
     refine up ?_
     refine wpAnyIn_ready (rs:=[1,4]) (by kernel_rfl) (by simp) (AllReadyIn.cons rfl (fun K hK=>?_) (AllReadyIn.cons rfl (fun K hK=>?_) AllReadyIn.nil))
     .have cc:=CX.out V hV
      go_simp
      refine hK _ _ ?_
      exact dn (S1 V hV)
     .have cc:=CY.out V hV
      go_simp
      refine hK _ _ ?_
      exact dn (S4 V hV)
    exact S _ (Below.refl _ _).drew
   .obtain rfl:k=es.length:=by omega
    gi_wp2
    go_end0
    exact ⟨⟨_,rfl⟩,.inl hJ⟩
 .obtain rfl:N=fs.length:=by omega
  clear hN
  gi_wp2
  gi_loopw [10] (fun i wr=>∃k:Nat,i=.int .i64 k/\k<=fs.length/\J k wr/\wr.cell? ⟨Bx,0,none⟩=some (.slice A es.length c)/\wr.cell? ⟨By,0,none⟩=some (.slice A' fs.length c')/\Rq wr B A es/\Rq wr B A' fs)
   (fun i _=>fs.length-(intOf i).toNat)
  case atStart=>exact ⟨0,rfl,Nat.zero_le _,h0,hbx,hby,hx,hy⟩
  case round =>
   obtain ⟨k,rfl,hk,hJ,cx,cy,rx,ry⟩:=hrel
   clear hbx hby hx hy h0
   have klx:Bx<wr.heap.size:=World.block_lt_of_cell? wr _ cx
   have kly:By<wr.heap.size:=World.block_lt_of_cell? wr _ cy
   by_cases hlt:k<fs.length
   .have hlt':(k:Int)<(fs.length:Nat):=by omega
    have hdec:decide ((k:Int)<max (es.length:Int) (fs.length:Int))=true:=decide_eq_true (by omega)
    have HX:=Hd (fun (V:World) (hV:Below wr.heap.size wr V)=>at_v (c:=c) (k:=k) (rx.grow hV) QX.out HX63.out)
    have HY:=Hd (fun (V:World) (hV:Below wr.heap.size wr V)=>at_v (c:=c') (k:=k) (ry.grow hV) QY.out HY63.out)
    have HJ:=Hd (fun (V:World) (hV:Below wr.heap.size wr V)=>HYY.out k V hlt (HST.out k _ _ hJ hV))
    have next:∀V W3,Below wr.heap.size wr V->J (k+1) W3->KeepAt (pairS Bx By B) V W3->(∃k':Nat,(Value.int .i64 ((k:Int)+1))=.int .i64 k'/\k'<=fs.length/\J k' W3/\W3.cell? ⟨Bx,0,none⟩=some (.slice A es.length c)/\W3.cell? ⟨By,0,none⟩=some (.slice A' fs.length c')/\Rq W3 B A es/\Rq W3 B A' fs) :=
     fun V W3 hV hJ3 hk3=>⟨k+1,by simp,by omega,hJ3,(hk3 _ (.inl rfl)).trans ((hV.cell (p:=⟨Bx,0,none⟩) klx).trans cx),(hk3 _ (.inr (.inl rfl))).trans ((hV.cell (p:=⟨By,0,none⟩) kly).trans cy),(rx.grow hV).keepAt (fun p hp=>.inr (.inr hp)) hk3,(ry.grow hV).keepAt (fun p hp=>.inr (.inr hp)) hk3⟩
    have NEXT:=Hd next
    have HEND:=Hd hlt
    have CX:=Hd (fun (V:World) (hV:Below wr.heap.size wr V)=>(hV.cell (p:=⟨Bx,0,none⟩) klx).trans cx)
    have CY:=Hd (fun (V:World) (hV:Below wr.heap.size wr V)=>(hV.cell (p:=⟨By,0,none⟩) kly).trans cy)
    clear next rx ry cx cy hlt klx kly
    obtain ⟨X,hX⟩:∃X,(es.getD k E4.z).v=X:=⟨_,rfl⟩
    obtain ⟨Y,hY⟩:∃Y,(fs.getD k E4.z).v=Y:=⟨_,rfl⟩
    unfold vpairE at HJ
    rw[hX]at HX HJ
    rw[hY]at HY HJ
    clear hX hY
    gi_wp2_with fail
    refine wpIn_region_any follows ?_
    refine wpAnyIn_take (i:=0) (v:=.func (.yield l) #[] #[]) rfl rfl (by kernel_rfl) (by kernel_rfl) (by kernel_rfl) (fun _ _ _ h=>h) ⟨Or.inl ⟨by rfl,fun w=>by go_simp⟩,fun _=>rfl⟩ ?_
    refine wpAnyIn_take (i:=2) (v:=.int .i64 (k:Int)) rfl rfl (by kernel_rfl) (by kernel_rfl) (by kernel_rfl) (fun _ _ _ h=>h) ⟨Or.inl ⟨by rfl,fun w=>by go_simp⟩,fun _=>rfl⟩ ?_
    refine wpAnyIn_take (i:=5) (v:=.int .i64 (k:Int)) rfl rfl (by kernel_rfl) (by kernel_rfl) (by kernel_rfl) (fun _ _ _ h=>h) ⟨Or.inl ⟨by rfl,fun w=>by go_simp⟩,fun _=>rfl⟩ ?_
    refine dagInE 6 #[true,false,true,false,false,true,false,false,false] ⟨#[.func (.yield l) #[] #[],.pointer (some ⟨Bx,0,none⟩),.pointer (some ⟨By,0,none⟩),undef,.int .i64 (k:Int),.slice A es.length c,.int .i64 (es.length:Int),.slice A' fs.length c',.int .i64 (fs.length:Int),.int .i64 (max (es.length:Int) (fs.length:Int)),.int .i64 (k:Int),.bool true,.int .i64 (k:Int),.func (.yield l) #[] #[],u14,.int .i64 (k:Int),u16,u17,.int .i64 (k:Int),u19,u20,u21,u22],[]⟩ (by kernel_rfl) (by kernel_rfl) (by rfl) (fun G up dn=>?_)
    have S1346:∀V,Below wr.heap.size wr V->G 2 #[true,true,true,true,true,true,true,false,false] ⟨#[.func (.yield l) #[] #[],.pointer (some ⟨Bx,0,none⟩),.pointer (some ⟨By,0,none⟩),undef,.int .i64 (k:Int),.slice A es.length c,.int .i64 (es.length:Int),.slice A' fs.length c',.int .i64 (fs.length:Int),.int .i64 (max (es.length:Int) (fs.length:Int)),.int .i64 (k:Int),.bool true,.int .i64 (k:Int),.func (.yield l) #[] #[],.slice A es.length c,.int .i64 (k:Int),X,.slice A' fs.length c',.int .i64 (k:Int),Y,u20,u21,u22],[]⟩ V:=by
     intro V hV
     refine up ?_
     obtain ⟨fn,tmps,assign,body,hyy,hR⟩:=HJ.out V hV
     refine rdyI (i:=7) (by kernel_rfl) rfl (fun K hK=>?_)
     go_simp
     gi_wp2
     refine hR.mono ?_
     rintro e W3 (⟨rfl,hJ3,hk3⟩|⟨rfl,hJx3⟩)
     .refine hK _ _ ?_
      clear hK K
      refine rdyI (i:=8) (by kernel_rfl) rfl (fun K hK=>?_)
      go_simp
      refine hK _ _ ?_
      clear hK K
      refine wpAnyIn_done (by kernel_rfl) ?_ _
      gi_wp2
      go_roundw
      case rel=>exact NEXT.out V W3 hV hJ3 hk3
      case measure=>have:=HEND.out;simp[intOf];omega
     .refine hK _ _ ?_
      clear hK K
      refine rdyI (i:=8) (by kernel_rfl) rfl (fun K hK=>?_)
      go_simp
      refine hK _ _ ?_
      clear hK K
      refine wpAnyIn_done (by kernel_rfl) ?_ _
      gi_wp2
      refine bodyPost_ret (results_none rfl _ _ _) rfl ?_
      exact ⟨⟨_,rfl⟩,.inr ⟨k,HEND.out,hJx3⟩⟩
    have S134:∀V,Below wr.heap.size wr V->G 3 #[true,true,true,true,true,true,false,false,false] ⟨#[.func (.yield l) #[] #[],.pointer (some ⟨Bx,0,none⟩),.pointer (some ⟨By,0,none⟩),undef,.int .i64 (k:Int),.slice A es.length c,.int .i64 (es.length:Int),.slice A' fs.length c',.int .i64 (fs.length:Int),.int .i64 (max (es.length:Int) (fs.length:Int)),.int .i64 (k:Int),.bool true,.int .i64 (k:Int),.func (.yield l) #[] #[],.slice A es.length c,.int .i64 (k:Int),X,.slice A' fs.length c',.int .i64 (k:Int),u19,u20,u21,u22],[]⟩ V:=by
     intro V hV
     refine up ?_
     refine rdyI (i:=6) (by kernel_rfl) rfl (fun K hK=>?_)
     go_simp
     gi_wp2_with (refine ⟨trivial,?_⟩;gi_at_call 116;refine (callsIn_wide.2 (HY.out V hV)).mono ?_;rintro e w' ⟨rfl,bb⟩)
     exact dn (S1346 _ (Bxb hV bb))
    have S14:∀V,Below wr.heap.size wr V->G 4 #[true,true,true,false,true,true,false,false,false] ⟨#[.func (.yield l) #[] #[],.pointer (some ⟨Bx,0,none⟩),.pointer (some ⟨By,0,none⟩),undef,.int .i64 (k:Int),.slice A es.length c,.int .i64 (es.length:Int),.slice A' fs.length c',.int .i64 (fs.length:Int),.int .i64 (max (es.length:Int) (fs.length:Int)),.int .i64 (k:Int),.bool true,.int .i64 (k:Int),.func (.yield l) #[] #[],.slice A es.length c,.int .i64 (k:Int),u16,.slice A' fs.length c',.int .i64 (k:Int),u19,u20,u21,u22],[]⟩ V:=by
     intro V hV
     refine up ?_
     refine rdyI (i:=3) (by kernel_rfl) rfl (fun K hK=>?_)
     go_simp
     gi_wp2_with (refine ⟨trivial,?_⟩;gi_at_call 116;refine (callsIn_wide.2 (HX.out V hV)).mono ?_;rintro e w' ⟨rfl,bb⟩)
     exact dn (S134 _ (Bxb hV bb))
    have S13:∀V,Below wr.heap.size wr V->G 4 #[true,true,true,true,false,true,false,false,false] ⟨#[.func (.yield l) #[] #[],.pointer (some ⟨Bx,0,none⟩),.pointer (some ⟨By,0,none⟩),undef,.int .i64 (k:Int),.slice A es.length c,.int .i64 (es.length:Int),.slice A' fs.length c',.int .i64 (fs.length:Int),.int .i64 (max (es.length:Int) (fs.length:Int)),.int .i64 (k:Int),.bool true,.int .i64 (k:Int),.func (.yield l) #[] #[],.slice A es.length c,.int .i64 (k:Int),X,u17,.int .i64 (k:Int),u19,u20,u21,u22],[]⟩ V:=by
     intro V hV
     refine up ?_
     refine rdyI (i:=4) (by kernel_rfl) rfl (fun K hK=>?_)
     have cc:=CY.out V hV
     go_simp
     refine hK _ _ ?_
     exact dn (S134 V hV)
    have S1:∀V,Below wr.heap.size wr V->G 5 #[true,true,true,false,false,true,false,false,false] ⟨#[.func (.yield l) #[] #[],.pointer (some ⟨Bx,0,none⟩),.pointer (some ⟨By,0,none⟩),undef,.int .i64 (k:Int),.slice A es.length c,.int .i64 (es.length:Int),.slice A' fs.length c',.int .i64 (fs.length:Int),.int .i64 (max (es.length:Int) (fs.length:Int)),.int .i64 (k:Int),.bool true,.int .i64 (k:Int),.func (.yield l) #[] #[],.slice A es.length c,.int .i64 (k:Int),u16,u17,.int .i64 (k:Int),u19,u20,u21,u22],[]⟩ V:=by
     intro V hV
     refine up ?_
     refine wpAnyIn_ready (rs:=[3,4]) (by kernel_rfl) (by simp) (AllReadyIn.cons rfl (fun K hK=>?_) (AllReadyIn.cons rfl (fun K hK=>?_) AllReadyIn.nil))
     .go_simp
      gi_wp2_with (refine ⟨trivial,?_⟩;gi_at_call 116;refine (callsIn_wide.2 (HX.out V hV)).mono ?_;rintro e w' ⟨rfl,bb⟩)
      exact dn (S13 _ (Bxb hV bb))
     .have cc:=CY.out V hV
      go_simp
      refine hK _ _ ?_
      exact dn (S14 V hV)
    have S4:∀V,Below wr.heap.size wr V->G 5 #[true,false,true,false,true,true,false,false,false] ⟨#[.func (.yield l) #[] #[],.pointer (some ⟨Bx,0,none⟩),.pointer (some ⟨By,0,none⟩),undef,.int .i64 (k:Int),.slice A es.length c,.int .i64 (es.length:Int),.slice A' fs.length c',.int .i64 (fs.length:Int),.int .i64 (max (es.length:Int) (fs.length:Int)),.int .i64 (k:Int),.bool true,.int .i64 (k:Int),.func (.yield l) #[] #[],u14,.int .i64 (k:Int),u16,.slice A' fs.length c',.int .i64 (k:Int),u19,u20,u21,u22],[]⟩ V:=by
     intro V hV
     refine up ?_
     refine rdyI (i:=1) (by kernel_rfl) rfl (fun K hK=>?_)
     have cc:=CX.out V hV
     go_simp
     refine hK _ _ ?_
     exact dn (S14 V hV)
    have S:∀V,Below wr.heap.size wr V->G 6 #[true,false,true,false,false,true,false,false,false] ⟨#[.func (.yield l) #[] #[],.pointer (some ⟨Bx,0,none⟩),.pointer (some ⟨By,0,none⟩),undef,.int .i64 (k:Int),.slice A es.length c,.int .i64 (es.length:Int),.slice A' fs.length c',.int .i64 (fs.length:Int),.int .i64 (max (es.length:Int) (fs.length:Int)),.int .i64 (k:Int),.bool true,.int .i64 (k:Int),.func (.yield l) #[] #[],u14,.int .i64 (k:Int),u16,u17,.int .i64 (k:Int),u19,u20,u21,u22],[]⟩ V:=by
     intro V hV
     refine up ?_
     refine wpAnyIn_ready (rs:=[1,4]) (by kernel_rfl) (by simp) (AllReadyIn.cons rfl (fun K hK=>?_) (AllReadyIn.cons rfl (fun K hK=>?_) AllReadyIn.nil))
     .have cc:=CX.out V hV
      go_simp
      refine hK _ _ ?_
      exact dn (S1 V hV)
     .have cc:=CY.out V hV
      go_simp
      refine hK _ _ ?_
      exact dn (S4 V hV)
    exact S _ (Below.refl _ _).drew
   .obtain rfl:k=fs.length:=by omega
    gi_wp2
    go_end0
    exact ⟨⟨_,rfl⟩,.inl hJ⟩
end Go.Proofs.YtglhdielkkhefaaGreat

namespace Go.Proofs.YtglhdielkkhefaaGreat
open Go.RowKit Go.Shelf
attribute [local go_sem] Oper.semAt_some
theorem wpList_makeq (w:World){ops:Array Oper}{rest:List Oper}{o:Oper}{a:Act}{Q:Exit->Act->World->Prop}
  (hg:o.guard=none) (l c:Operand) (hop:o.op=Op.makeSlice 38 l c) (N C:Nat) {L D:Int} (hl:a.eval l=.int .i64 L) (hc:a.eval c=.int .i64 D) (hL:L=(N:Int)) (hC:D=(C:Int)) (h1:N<=C) (h2:C<=4398046511104)
  (hK:wpList Tryz.prog ops Q rest (a.put o.dst (.slice (some ⟨w.heap.size,0,none⟩) N C)) (w.alloc (.cells (flat (List.replicate C E4.z)).toArray 32))) :
  wpList Tryz.prog ops Q (o::rest) a w:=by
 refine wpList_plain hg fun K hK'=>?_
 have hrun:=make_q w N C h1 h2
 subst hL
 subst hC
 unfold Oper.wp
 simp[execOp,hop,hl,hc,hrun,Result.andThen]
 exact hK' _ _ hK
def Hp (W:World)(g:Nat)(o:Obj):Prop:=W.heap[g]?=some o
section
variable {W V : World} {g : Nat} {o : Obj}
theorem Hp.lt (h:Hp W g o):g<W.heap.size:=(Array.getElem?_eq_some_iff.1 h).1
theorem Hp.to (h:Hp W g o)(hb:Below W.heap.size W V):Hp V g o:=(hb.block g h.lt).trans h
theorem Hp.new (W:World)(cs:Array Value)(t:TypeId):Hp (W.alloc (.cells cs t)) W.heap.size (.cells cs t (0,0)):=World.alloc_heap_new W _
theorem Hp.alloc (h:Hp W g o)(p:Obj):Hp (W.alloc p) g o:=h.to ((Below.refl _ _).alloc (Nat.le_refl _) _)
theorem Hp.four {a b c d:Value}{t:TypeId}(h:Hp W g (.cells #[a,b,c,d] t (0,0))):Four W g a b c d:=Four.of h
theorem Hp.one {a:Value}{t:TypeId}(h:Hp W g (.cells #[a] t (0,0))):W.cell? ⟨g,0,none⟩=some a:=Boxed.cell (t:=t) h
theorem Hp.grown {row:Option Nat}(h:Hp W g o)(hg:W.grownBy V row)(hr:∀r,row=some r->∃o:Obj,W.heap[r]?=some o/\o.isCells=false)(ho:o.isCells=true):Hp V g o :=
 (grownBy_keeps_cells hg hr h ho).trans h
theorem Kw.grown {row:Option Nat}(hg:W.grownBy V row)(hr:∀r,row=some r->∃o:Obj,W.heap[r]?=some o/\o.isCells=false):Kw W V :=
 ⟨hg.size,fun _ _ hp=>cell_kept hp hg hr⟩
theorem Row.grown {es:List E4}{row:Option Nat}(h:Row W g es)(hg:W.grownBy V row)(hr:∀r,row=some r->∃o:Obj,W.heap[r]?=some o/\o.isCells=false):Row V g es :=
 ⟨(grownBy_keeps_cells hg hr h.heap rfl).trans h.heap,h.fq⟩
end
structure Acc (W:World)(H g N k:Nat)(f:Nat->Rat):Prop where
 box:Hp W H (.cells #[.slice (some ⟨g,0,none⟩) k N] 38 (0,0))
 row:∃fl,Row W g fl/\fl.length=N/\∀i,i<k->Qc W (fl.getD i E4.z).a (fl.getD i E4.z).b (fl.getD i E4.z).c (fl.getD i E4.z).d (f i)
section
variable {W V : World} {H g N k : Nat} {f : Nat -> Rat}
theorem Acc.to (h:Acc W H g N k f)(hb:Below W.heap.size W V):Acc V H g N k f:=by
 obtain ⟨fl,h1,h2,h3⟩:=h.row
 exact ⟨h.box.to hb,fl,h1.to hb,h2,fun i hi=>(h3 i hi).to hb⟩
theorem Acc.grown {row:Option Nat}(h:Acc W H g N k f)(hg:W.grownBy V row)(hr:∀r,row=some r->∃o:Obj,W.heap[r]?=some o/\o.isCells=false):Acc V H g N k f:=by
 obtain ⟨fl,h1,h2,h3⟩:=h.row
 exact ⟨h.box.grown hg hr rfl,fl,h1.grown hg hr,h2,fun i hi=>(Kw.grown hg hr).qc (h3 i hi)⟩
theorem Acc.more (h:Acc W H g N k f)(hk:k<N)(hne:H≠g){e:E4}(he:e.fq)(hq:Qc W e.a e.b e.c e.d (f k)){a:Addr}{c:Nat}
  (h0:W.cell? (a.add 0)=some e.a) (h1:W.cell? (a.add 1)=some e.b) (h2:W.cell? (a.add 2)=some e.c) (h3:W.cell? (a.add 3)=some e.d) (ty:TypeId) :
  ∃X,(Builtin.append_ #[38,38] ty #[.slice (some ⟨g,0,none⟩) k N,.slice (some a) 1 c]).run Tryz.prog W=.ok (.slice (some ⟨g,0,none⟩) (k+1) N) X /\
   Hp X H (.cells #[.slice (some ⟨g,0,none⟩) k N] 38 (0,0)) /\
   Acc (X.setCell ⟨H,0,none⟩ (.slice (some ⟨g,0,none⟩) (k+1) N)) H g N (k+1) f /\
   (X.setCell ⟨H,0,none⟩ (.slice (some ⟨g,0,none⟩) (k+1) N)).heap.size=W.heap.size /\
   (∀j,j≠g->j≠H->(X.setCell ⟨H,0,none⟩ (.slice (some ⟨g,0,none⟩) (k+1) N)).heap[j]?=W.heap[j]?) /\
   (∀B,B<=g->B<=H->Below B W (X.setCell ⟨H,0,none⟩ (.slice (some ⟨g,0,none⟩) (k+1) N))):=by
 obtain ⟨fl,r1,rfl,r3⟩:=h.row
 have hr:=append_q r1 hk he h0 h1 h2 h3 (c:=c) ty
 have hrow:=r1.app (n:=k) he
 have kw1:Kw W (W.setRow g (flat (fl.set k e)).toArray):=r1.kw
 obtain ⟨X,hX⟩:∃X,W.setRow g (flat (fl.set k e)).toArray=X:=⟨_,rfl⟩
 have hsz:X.heap.size=W.heap.size:=by rw[<-hX,setRow_size]
 have hoth:∀j,j≠g->X.heap[j]?=W.heap[j]?:=fun j hj=>by rw[<-hX,setRow_other _ _ _ _ hj]
 have hbel:∀B,B<=g->Below B W X:=fun B hB=>by rw[<-hX];exact below_setRow (Below.refl _ _) hB _
 rw[hX]at hr hrow kw1
 have hbox:Hp X H (.cells #[.slice (some ⟨g,0,none⟩) k fl.length] 38 (0,0)):=(hoth H hne).trans h.box
 have hset:∀j,j≠H->(X.setCell ⟨H,0,none⟩ (.slice (some ⟨g,0,none⟩) (k+1) fl.length)).heap[j]?=X.heap[j]?:=fun j hj=>Below.heap_setCell X ⟨H,0,none⟩ _ j hj
 have kw2:Kw W (X.setCell ⟨H,0,none⟩ (.slice (some ⟨g,0,none⟩) (k+1) fl.length)):=kw1.setCell hbox.one (fun n hn=>by cases hn) _
 refine ⟨X,hr,hbox,⟨Boxed.set (W:=X) _ hbox,fl.set k e,hrow.keep (hset g (Ne.symm hne)),by simp,fun i hi=>?_⟩,by simpa [World.setCell]using hsz,fun j h1 h2=>(hset j h2).trans (hoth j h1),fun B h1 h2=>(hbel B h1).setCell (p:=⟨H,0,none⟩) h2 _⟩
 by_cases hik:i=k
 .subst hik
  rw[show (fl.set i e).getD i E4.z=e from by simp[List.getD,hk]]
  exact kw2.qc hq
 .rw[show (fl.set k e).getD i E4.z=fl.getD i E4.z from by simp[List.getD,List.getElem?_set,Ne.symm hik]]
  exact kw2.qc (r3 i (by omega))
end
end Go.Proofs.YtglhdielkkhefaaGreat

namespace Go.Proofs.YtglhdielkkhefaaGreat
open Go.RowKit Go.Shelf
attribute [local go_sem] Oper.semAt_some
structure CombI (w:World)(FV VX VY:Value)(N k:Nat)(f:Nat->Rat)(W:World):Prop where
 acc:Acc W (w.heap.size+1+1) (w.heap.size+1) N k f
 fn:Hp W w.heap.size (.cells #[FV] 83 (0,0))
 bx:Hp W (w.heap.size+1+1+1) (.cells #[VX] 38 (0,0))
 by':Hp W (w.heap.size+1+1+1+1) (.cells #[VY] 38 (0,0))
 bel:Below w.heap.size w W
theorem CombI.to {w:World}{FV VX VY:Value}{N k:Nat}{f:Nat->Rat}{W V:World}(h:CombI w FV VX VY N k f W)(hb:Below W.heap.size W V):CombI w FV VX VY N k f V :=
 ⟨h.acc.to hb,h.fn.to hb,h.bx.to hb,h.by'.to hb,h.bel.trans (hb.mono h.bel.size)⟩
theorem CombI.grown {w:World}{FV VX VY:Value}{N k:Nat}{f:Nat->Rat}{W V:World}{row:Option Nat}{B:Nat}(h:CombI w FV VX VY N k f W)(hB:w.heap.size<=B)(hg:W.grownBy V row)
  (hr:∀r,row=some r->B<=r/\∃o:Obj,W.heap[r]?=some o/\o.isCells=false):CombI w FV VX VY N k f V :=
 have hr':=fun r e=>(hr r e).2
 ⟨h.acc.grown hg hr',h.fn.grown hg hr' rfl,h.bx.grown hg hr' rfl,h.by'.grown hg hr' rfl,h.bel.grown hg h.bel.size (fun k e=>Nat.le_trans hB (hr k e).1)⟩
theorem fq_getD {es:List E4}(h:∀e∈es,e.fq)(k:Nat):(es.getD k E4.z).fq:=by
 by_cases hk:k<es.length
 .rw[getD_at' hk];exact h _ (List.getElem_mem hk)
 .rw[getD_out hk];exact E4.z_fq
def combA (FV VX VY:Value)(L M g:Nat)(V8 V9 X Y s21 s22 s23 s24 s25 s26:Value):Act :=
 ⟨#[VX,VY,FV,undef,undef,.pointer (some ⟨g,0,none⟩),.slice none 0 0,.pointer (some ⟨g+1+1,0,none⟩),V8,V9,VX,.int .i64 (L:Int),VY,.int .i64 (M:Int),.int .i64 (max (L:Int) (M:Int)),.slice (some ⟨g+1,0,none⟩) 0 (max L M),VX,VY,
  .func (.func 115) #[] #[.pointer (some ⟨g+1+1+1,0,none⟩),.pointer (some ⟨g+1+1+1+1,0,none⟩)],X,Y,s21,s22,s23,s24,s25,s26,undef,undef],[]⟩
def cb1 (A A':Option Addr)(c c':Nat)(es fs:List E4)(w:World)(V8 V9 X Y s21 s22 s23 s24 s25 s26:Value):Act:=(combA (.func (.func 90) #[] #[]) (.slice A es.length c) (.slice A' fs.length c') es.length fs.length w.heap.size V8 V9 X Y s21 s22 s23 s24 s25 s26)
def cb3 (A A':Option Addr)(c c':Nat)(es fs:List E4)(w:World)(gk:Nat)(V8 V9 X Y s21 s22 s23 s24 s25 s26:Value):Act:=(combA (.func (.func 135) #[] #[.pointer (some ⟨gk,0,none⟩)]) (.slice A es.length c) (.slice A' fs.length c') es.length fs.length w.heap.size V8 V9 X Y s21 s22 s23 s24 s25 s26)
end Go.Proofs.YtglhdielkkhefaaGreat

namespace Go.Proofs.YtglhdielkkhefaaGreat
open Go.RowKit Go.Shelf
attribute [local go_sem] Oper.semAt_some
def lexF (f:Nat->Int):Nat->Nat->Int
 | _,0=>0
 | k,n+1=>if f k=0 then lexF f (k+1) n else f k
theorem lexF_zero (f:Nat->Int):∀(n k:Nat),(∀j,k<=j->j<k+n->f j=0)->lexF f k n=0
 | 0,_,_=>rfl
 | n+1,k,h=>by
  unfold lexF
  rw[if_pos (h k (Nat.le_refl _) (by omega))]
  exact lexF_zero f n (k+1) fun j h1 h2=>h j (by omega) (by omega)
theorem lexF_stop (f:Nat->Int):∀(n k m:Nat),(∀j,k<=j->j<m->f j=0)->k<=m->m<k+n->f m≠0->lexF f k n=f m
 | 0,k,m,_,h1,h2,_=>by omega
 | n+1,k,m,h,h1,h2,h3=>by
  unfold lexF
  by_cases hk:k=m
  .subst hk;rw[if_neg h3]
  .rw[if_pos (h k (Nat.le_refl _) (by omega))]
   exact lexF_stop f n (k+1) m (fun j h4 h5=>h j (by omega) h5) (by omega) (by omega) h3
def posF (f:Nat->Int):Nat->Nat->Option Nat
 | _,0=>none
 | k,n+1=>if 0<f k then some k else posF f (k+1) n
structure PairI (w:World)(B:Nat)(VX VY:Value)(W:World):Prop where
 bx:Hp W B (.cells #[VX] 38 (0,0))
 by':Hp W (B+1) (.cells #[VY] 38 (0,0))
 bel:Below w.heap.size w W
theorem PairI.to {w:World}{B:Nat}{VX VY:Value}{W V:World}(h:PairI w B VX VY W)(hb:Below W.heap.size W V):PairI w B VX VY V:=⟨h.bx.to hb,h.by'.to hb,h.bel.trans (hb.mono h.bel.size)⟩
theorem PairI.grown {w:World}{B:Nat}{VX VY:Value}{W V:World}{row:Option Nat}{C:Nat}(h:PairI w B VX VY W)(hB:w.heap.size<=C)(hg:W.grownBy V row)
  (hr:∀r,row=some r->C<=r/\∃o:Obj,W.heap[r]?=some o/\o.isCells=false):PairI w B VX VY V :=
 have hr':=fun r e=>(hr r e).2
 ⟨h.bx.grown hg hr' rfl,h.by'.grown hg hr' rfl,h.bel.grown hg h.bel.size (fun k e=>Nat.le_trans hB (hr k e).1)⟩
theorem PairI.set {w:World}{B:Nat}{VX VY:Value}{W:World}{p:Nat}(h:PairI w B VX VY W)(h1:p<B)(h2:w.heap.size<=p)(v:Value):PairI w B VX VY (W.setCell ⟨p,0,none⟩ v) :=
 ⟨Boxed.other (W:=W) h.bx (by omega) v,Boxed.other (W:=W) h.by' (by omega) v,h.bel.setCell (p:=⟨p,0,none⟩) h2 v⟩
def EHp (W:World)(p:Nat)(e:E4):Prop:=Hp W p (.cells #[e.a,e.b,e.c,e.d] 32 (0,0))
theorem KeepAt.of {S:Addr->Prop}{W V:World}(h:∀p,S p->V.heap[p.block]?=W.heap[p.block]?):KeepAt S W V:=fun p hp=>World.cell?_of_block (h p hp)
theorem compare_f {f:Nat->Int}{A A':Option Addr}{c c':Nat}{es fs:List E4}{w:World}(hx:Rq w w.heap.size A es)(hy:Rq w w.heap.size A' fs)(qx:∀e∈es,e.fq)(qy:∀e∈fs,e.fq)
  (hx63:es.length<=4398046511104) (hy63:fs.length<=4398046511104)
  (hF:∀(V:World),Below w.heap.size w V->∀i,i<max es.length fs.length->Calls Tryz.prog 87 #[(es.getD i E4.z).v,(fs.getD i E4.z).v] V fun e w'=>e=.returned (.int .i64 (f i))/\Below V.heap.size V w') :
  Calls Tryz.prog 86 #[.slice A es.length c,.slice A' fs.length c'] w fun e w'=>e=.returned (.int .i64 (lexF f 0 (max es.length fs.length)))/\Below w.heap.size w w':=by
 have HF:=Hd hF
 have HX63:=Hd hx63
 have HY63:=Hd hy63
 have RX:=Hd hx
 have RY:=Hd hy
 have QX:=Hd qx
 have QY:=Hd qy
 clear hF hx hy qx qy
 refine (callsIn_wide (n:=3)).1 ?_
 refine callsIn_of_wp_marks Tryz.func86 rfl trivial ?_ rfl
 simp only[Tryz.ntmps86,List.size_toArray,List.length_cons,List.length_nil,Nat.reduceAdd,Nat.reduceSub,Array.replicate_succ,Array.replicate_zero,List.push_toArray,List.append_toArray,List.nil_append,List.cons_append]
 gi_wp2_with (first
  | (refine ⟨trivial,?_⟩;gi_at_call 92;refine (callsIn_wide.2 (vpairs_any _ _ _ _ _ _ _)).mono ?_;rintro e w' ⟨rfl,rfl⟩))
 obtain ⟨W0,hW0⟩:∃W0,W0=((w.alloc (.cells #[.int .i64 0] 3)).alloc (.cells #[.slice A es.length c] 38)).alloc (.cells #[.slice A' fs.length c'] 38):=⟨_,rfl⟩
 have hb0:Below w.heap.size w W0:=by rw[hW0];exact (((Below.refl _ _).alloc (Nat.le_refl _) _).alloc (by simp) _).alloc (by simp;omega) _
 have hR0:Hp W0 w.heap.size (.cells #[.int .i64 0] 3 (0,0)):=by rw[hW0];exact ((Hp.new _ _ _).alloc _).alloc _
 have hP0:PairI w (w.heap.size+1) (.slice A es.length c) (.slice A' fs.length c') W0:=by
  have h1:=Hp.new (w.alloc (.cells #[.int .i64 0] 3)) #[.slice A es.length c] 38
  have h2:=Hp.new ((w.alloc (.cells #[.int .i64 0] 3)).alloc (.cells #[.slice A es.length c] 38)) #[.slice A' fs.length c'] 38
  rw[World.size_alloc]at h1
  rw[World.size_alloc,World.size_alloc]at h2
  exact ⟨by rw[hW0];exact h1.alloc _,by rw[hW0];exact h2,hb0⟩
 have hs0:W0.heap.size=w.heap.size+1+1+1:=by rw[hW0];simp
 rw[<-hW0]
 clear hW0
 refine wp_roundsB (gf:=115) (lb:=#[.pointer (some ⟨w.heap.size+1,0,none⟩),.pointer (some ⟨w.heap.size+1+1,0,none⟩)]) ?hg (enters_of Tryz.func115 (by kernel_rfl) rfl)
  (N:=max es.length fs.length) (enc:=vpairE es fs) (S:=pairS (w.heap.size+1) (w.heap.size+1+1) w.heap.size) (pairS_lt (by omega) (by omega) (by omega))
  (fun W hW=>by
   have h:=hP0.to hW
   exact vpairs_gives (w.heap.size+1) (w.heap.size+1+1) w.heap.size c c' A A' es fs (by have:=HX63.out;omega) (by have:=HY63.out;omega) W h.bx.one h.by'.one (RX.out.below h.bel) (RY.out.below h.bel) QX.out QY.out)
  ?hps
  (fun k W=>Hp W w.heap.size (.cells #[.int .i64 0] 3 (0,0))/\PairI w (w.heap.size+1) (.slice A es.length c) (.slice A' fs.length c') W/\∀j,j<k->f j=0)
  (fun k a1 W=>∃p q,a1=⟨#[.slice A es.length c,.slice A' fs.length c',undef,undef,.pointer (some ⟨w.heap.size,0,none⟩),.pointer (some ⟨p,0,none⟩),.pointer (some ⟨q,0,none⟩),undef,.slice A es.length c,.slice A' fs.length c',.func (.func 115) #[] #[.pointer (some ⟨w.heap.size+1,0,none⟩),.pointer (some ⟨w.heap.size+1+1,0,none⟩)],(es.getD k E4.z).v,(fs.getD k E4.z).v,undef,undef,undef,undef,undef,undef],[]⟩/\(Hp W w.heap.size (.cells #[.int .i64 0] 3 (0,0))/\PairI w (w.heap.size+1) (.slice A es.length c) (.slice A' fs.length c') W/\∀j,j<k->f j=0)/\EHp W p (es.getD k E4.z)/\EHp W q (fs.getD k E4.z))
  (fun jmp k W=>jmp=.ret/\Hp W w.heap.size (.cells #[.int .i64 (f k)] 3 (0,0))/\Below w.heap.size w W/\f k≠0/\∀j,j<k->f j=0) ?hI ?hI1 ?hIb ?hIx ⟨hR0,hP0,fun j hj=>by omega⟩ ?assign ?body ?done ?stop
 case hg=>rfl
 case hps=>exact fun _=>rfl
 case hI=>exact fun k W V row h hg hr=>⟨h.1.grown hg (fun r e=>(hr r e).2) rfl,h.2.1.grown (by omega) hg hr,h.2.2⟩
 case hI1 =>
  rintro ⟨k,a1⟩ W V row ⟨p,q,h1,h2,h3,h4⟩ hg hr
  exact ⟨p,q,h1,⟨h2.1.grown hg (fun r e=>(hr r e).2) rfl,h2.2.1.grown (by omega) hg hr,h2.2.2⟩,Hp.grown h3 hg (fun r e=>(hr r e).2) rfl,Hp.grown h4 hg (fun r e=>(hr r e).2) rfl⟩
 case hIb=>exact fun k W V h hb=>⟨h.1.to hb,h.2.1.to hb,h.2.2⟩
 case hIx =>
  rintro jmp k W V row ⟨h1,h2,h3,h4⟩ hg hr
  exact ⟨h1,h2.grown hg (fun r e=>(hr r e).2) rfl,h3.grown hg h3.size (fun j e=>Nat.le_trans (by omega) (hr j e).1),h4⟩
 case assign =>
  intro l k W K hlt hI hk hK
  have fx:=fq_getD QX.out k
  have fy:=fq_getD QY.out k
  have HK:=Hd hK
  clear hK
  unfold vpairE
  generalize es.getD k E4.z=X at HK fx ⊢
  generalize fs.getD k E4.z=Y at HK fy ⊢
  obtain ⟨x1,x2,x3,x4⟩:=X
  obtain ⟨y1,y2,y3,y4⟩:=Y
  obtain ⟨⟨n1,A1,j1,m1,e1,e2⟩,⟨n2,A2,j2,m2,e3,e4⟩⟩:=fx
  obtain ⟨⟨n3,A3,j3,m3,e5,e6⟩,⟨n4,A4,j4,m4,e7,e8⟩⟩:=fy
  dsimp only at e1 e2 e3 e4 e5 e6 e7 e8
  subst e1 e2 e3 e4 e5 e6 e7 e8
  simp only[E4.v]
  simp only[E4.v]at HK
  gi_wp2
  have hbb:Below W.heap.size W ((W.alloc (.cells #[.bool n1,.slice A1 j1 m1,.bool n2,.slice A2 j2 m2] 32)).alloc (.cells #[.bool n3,.slice A3 j3 m3,.bool n4,.slice A4 j4 m4] 32)):=((Below.refl _ _).alloc (Nat.le_refl _) _).alloc (by simp) _
  refine HK.out _ _ hbb ⟨_,_,rfl,⟨hI.1.to hbb,hI.2.1.to hbb,hI.2.2⟩,(Hp.new _ _ _).alloc _,?_⟩
  have h:=Hp.new (W.alloc (.cells #[.bool n1,.slice A1 j1 m1,.bool n2,.slice A2 j2 m2] 32)) #[.bool n3,.slice A3 j3 m3,.bool n4,.slice A4 j4 m4] 32
  rw[World.size_alloc]at h
  exact h
 case body =>
  rintro l k a1 W hlt ⟨p,q,rfl,⟨hR,hP,hz⟩,hp,hq⟩ hk
  have HFK:=Hd fun (V:World) (hV:Below w.heap.size w V)=>HF.out V hV k hk
  obtain ⟨X,hX⟩:∃X,es.getD k E4.z=X:=⟨_,rfl⟩
  obtain ⟨Y,hY⟩:∃Y,fs.getD k E4.z=Y:=⟨_,rfl⟩
  rw[hX]at hp HFK ⊢
  rw[hY]at hq HFK ⊢
  clear hX hY
  obtain ⟨x1,x2,x3,x4⟩:=X
  obtain ⟨y1,y2,y3,y4⟩:=Y
  simp only[E4.v]at HFK ⊢
  have c0:=(Hp.four hp).c0
  have c1:=(Hp.four hp).c1
  have c2:=(Hp.four hp).c2
  have c3:=(Hp.four hp).c3
  have d0:=(Hp.four hq).c0
  have d1:=(Hp.four hq).c1
  have d2:=(Hp.four hq).c2
  have d3:=(Hp.four hq).c3
  dsimp only at c0 c1 c2 c3 d0 d1 d2 d3
  have HC:=Hd (HFK.out W hP.bel)
  have HR:=Hd fun (V:World) (hV:Below W.heap.size W V)=>hR.to hV
  have HP:=Hd hP
  have HZ:=Hd hz
  have HS:Hid (w.heap.size+1+1+1<W.heap.size):=by show _<_;omega
  clear hp hq hR hP hz HFK HF hP0 hR0 RX RY QX QY hk
  obtain ⟨v,hv⟩:∃v,f k=v:=⟨_,rfl⟩
  rw[hv]at HC ⊢
  have HV:=Hd hv
  clear hv
  by_cases h0:v=0
  .have ht:(v != 0)=false:=by rw[h0];rfl
   have H0:=Hd h0
   clear h0
   gi_wp2_with (refine ⟨trivial,?_⟩;gi_at_call 87;refine (CallsIn.inRound l (callsIn_wide.2 HC.out)).mono ?_;rintro e V ⟨rfl,bb⟩)
   refine ⟨⟨bb.size,fun j o _ hj _=>(bb.block j (Array.getElem?_eq_some_iff.1 hj).1).trans hj⟩,KeepAt.of fun p hp=>bb.block _ (by have:=pairS_lt (S:=W.heap.size) (by have:=HS.out;omega) (by have:=HS.out;omega) (by have:=HS.out;omega) p hp;omega),HR.out V bb,HP.out.to bb,fun j hj=>?_⟩
   by_cases hjk:j=k
   .subst hjk;rw[HV.out];exact H0.out
   .exact HZ.out j (by omega)
  .have ht:(v != 0)=true:=by rw[bne_iff_ne];exact h0
   have H0:=Hd h0
   clear h0
   gi_wp2_with (refine ⟨trivial,?_⟩;gi_at_call 87;refine (CallsIn.inRound l (callsIn_wide.2 HC.out)).mono ?_;rintro e V ⟨rfl,bb⟩;have cR:=(HR.out V bb).one;have fR:=Boxed.frozen (t:=3) (HR.out V bb))
   refine ⟨(KeepsFrom.trans ⟨bb.size,fun j o _ hj _=>(bb.block j (Array.getElem?_eq_some_iff.1 hj).1).trans hj⟩ ((KeepsOthers.setCell _ _ _).from _)),rfl,Boxed.set _ (HR.out V bb),(HP.out.bel.trans (bb.mono HP.out.bel.size)).setCell (p:=⟨w.heap.size,0,none⟩) (Nat.le_refl _) _,H0.out,HZ.out⟩
 case done =>
  rintro W ⟨hR,hP,hz⟩ hK
  have HE:Hid (lexF f 0 (max es.length fs.length)=0):=lexF_zero f _ _ fun j _ h=>hz j (by omega)
  have cR:=hR.one
  have fR:W.frozen? ⟨w.heap.size,0,none⟩=false:=Boxed.frozen (t:=3) hR
  have HR:=Hd hR
  have HB:=Hd hP.bel
  clear hz hP hR hb0 hP0 hR0
  gi_wp2
  have hK':=(KeepsOthers.setCell W ⟨w.heap.size,0,none⟩ (.int .i64 0)).same _ _ hK rfl
  have bR2:=(Boxed.set (.int .i64 0) HR.out).kept (grownBy_putObj' _ W0.heap.size (.deferred none)) (by simp;omega)
  refine ⟨by simp,.inl ⟨_,_,rfl,run_takeDeferred hK',?_⟩⟩
  refine ⟨.int .i64 0,?_,by rw[HE.out],(HB.out.setCell (p:=⟨w.heap.size,0,none⟩) (by simp) _).grown (grownBy_putObj' _ _ _) (by have:=HB.out.size;simpa [World.setCell]using this) (fun k e=>by cases e;omega)⟩
  have hc5:=bR2.cell
  simp[results,Tryz.f86,go_sem,hc5]
 case stop =>
  rintro jmp k W hk ⟨rfl,hR,hB,h0,hz⟩ hK
  have HE:Hid (lexF f 0 (max es.length fs.length)=f k):=lexF_stop f _ _ _ (fun j _ h=>hz j h) (Nat.zero_le _) (by omega) h0
  clear hb0 hP0 hR0 hz h0
  gi_wp2
  have bR2:=Boxed.kept (W:=W) hR (grownBy_putObj' _ W0.heap.size (.deferred none)) (by simp;omega)
  refine ⟨by simp,.inl ⟨_,_,rfl,run_takeDeferred hK,?_⟩⟩
  refine ⟨.int .i64 (f k),?_,by rw[HE.out],hB.grown (grownBy_putObj' _ _ _) hB.size (fun k e=>by cases e;omega)⟩
  have hc5:=bR2.cell
  simp[results,Tryz.f86,go_sem,hc5]
def lexQ (rs ss:List Rat):Int:=lexF (fun i=>cmpQ (rs.getD i 0) (ss.getD i 0)) 0 (max rs.length ss.length)
def aboveQ (rs ss:List Rat):Option Nat:=posF (fun i=>cmpQ (rs.getD i 0) (ss.getD i 0)) 0 (max rs.length ss.length)
theorem cmp_el {w:World}{A A':Option Addr}{c c':Nat}{es fs:List E4}{rs ss:List Rat}{k l:Nat}(hA:Vi w A c es rs k)(hB:Vi w A' c' fs ss l)(hk:0<k)(hl:0<l)(hkl:k+l<=10000) :
  ∀(V:World),Below w.heap.size w V->∀i,i<max es.length fs.length->Calls Tryz.prog 87 #[(es.getD i E4.z).v,(fs.getD i E4.z).v] V fun e w'=>e=.returned (.int .i64 (cmpQ (rs.getD i 0) (ss.getD i 0)))/\Below V.heap.size V w' :=
 fun _ hV i _=>cmp_q ((hA.el i).to hV) ((hB.el i).to hV) hk hl hkl rfl
theorem vcompare_v {w:World}{A A':Option Addr}{c c':Nat}{es fs:List E4}{rs ss:List Rat}{k l:Nat}(hA:Vi w A c es rs k)(hB:Vi w A' c' fs ss l)(hk:0<k)(hl:0<l)(hkl:k+l<=10000)(h1:rs.length<=4398046511104)(h2:ss.length<=4398046511104){v:Int}(hv:lexQ rs ss=v) :
  Calls Tryz.prog 86 #[.slice A rs.length c,.slice A' ss.length c'] w fun e w'=>e=.returned (.int .i64 v)/\Below w.heap.size w w':=by
 subst hv
 have h:=compare_f (c:=c) (c':=c') hA.row hB.row hA.fq hB.fq (by rw[hA.len];exact h1) (by rw[hB.len];exact h2) (cmp_el hA hB hk hl hkl)
 rw[hA.len,hB.len]at h
 exact h
theorem vequal_v {w:World}{A A':Option Addr}{c c':Nat}{es fs:List E4}{rs ss:List Rat}{k l:Nat}(hA:Vi w A c es rs k)(hB:Vi w A' c' fs ss l)(hk:0<k)(hl:0<l)(hkl:k+l<=10000)(h1:rs.length<=4398046511104)(h2:ss.length<=4398046511104){v:Bool}(hv:decide (lexQ rs ss=0)=v) :
  Calls Tryz.prog 44 #[.slice A rs.length c,.slice A' ss.length c'] w fun e w'=>e=.returned (.bool v)/\Below w.heap.size w w':=by
 have HC:=Hd (vcompare_v hA hB hk hl hkl h1 h2 rfl)
 obtain ⟨x,hx⟩:∃x,lexQ rs ss=x:=⟨_,rfl⟩
 rw[hx]at HC hv
 have hv':(x==0)=v:=by rw[<-hv];rfl
 clear hA hB hx hv
 go_enter Tryz.func44,Tryz.ntmps44
 go_wp2_with fail
 refine HC.out.mono ?_
 rintro e V ⟨rfl,bb⟩
 go_wp2
 go_ret
 exact ⟨by simp[<-hv'],bb⟩
end Go.Proofs.YtglhdielkkhefaaGreat

namespace Go.Proofs.YtglhdielkkhefaaGreat
open Go.RowKit Go.Shelf
theorem getD_lt {α:Type}{l:List α}{i:Nat}{d:α}(h:i<l.length):l.getD i d=l[i]:=by simp[List.getD,h]
theorem getD_ge {α:Type}{l:List α}{i:Nat}{d:α}(h:l.length<=i):l.getD i d=d:=by simp[List.getD,h]
def ptw (F:Rat->Rat->Rat)(rs ss:List Rat):List Rat:=(List.range (max rs.length ss.length)).map fun i=>F (rs.getD i 0) (ss.getD i 0)
theorem ptw_length (F:Rat->Rat->Rat)(rs ss:List Rat):(ptw F rs ss).length=max rs.length ss.length:=by simp[ptw]
theorem ptw_in {F:Rat->Rat->Rat}{rs ss:List Rat}{i:Nat}(h:i<max rs.length ss.length):(ptw F rs ss).getD i 0=F (rs.getD i 0) (ss.getD i 0):=by
 have h1:i<(ptw F rs ss).length:=by rw[ptw_length];exact h
 rw[getD_lt h1]
 simp[ptw]
theorem ptw_getD {F:Rat->Rat->Rat}(h0:F 0 0=0)(rs ss:List Rat)(i:Nat):(ptw F rs ss).getD i 0=F (rs.getD i 0) (ss.getD i 0):=by
 by_cases h:i<max rs.length ss.length
 .exact ptw_in h
 .rw[getD_ge (by rw[ptw_length];omega),getD_ge (l:=rs) (by omega),getD_ge (l:=ss) (by omega),h0]
theorem Row.vc {W:World}{g N:Nat}{fl:List E4}{rs:List Rat}(h:Row W g fl)(hl:fl.length=N)(hr:rs.length=N)(hN:N<=4398046511104)
  (hq:∀i,i<N->Qc W (fl.getD i E4.z).a (fl.getD i E4.z).b (fl.getD i E4.z).c (fl.getD i E4.z).d (rs.getD i 0)):Vc W (some ⟨g,0,none⟩) N fl rs:=by
 refine ⟨?_,by omega,fun i=>?_,h.fq,by omega,by omega⟩
 .have h1:=h.rq N
  rwa [List.take_of_length_le (by omega)]at h1
 .by_cases hi:i<N
  .exact hq i hi
  .rw[getD_ge (l:=rs) (by omega),getD_ge (l:=fl) (by omega)]
   exact ⟨Zc.zero _,Zc.zero _⟩
theorem zp_t {w:World}{a1 a2 a3 a4 b1 b2 b3 b4:Value}{r s:Rat}{k l:Nat}(hA:Qi w a1 a2 a3 a4 r k)(hB:Qi w b1 b2 b3 b4 s l)(h0:r=0) :
  Calls Tryz.prog 89 #[.agg #[a1,a2,a3,a4],.agg #[b1,b2,b3,b4]] w (fun e w'=>e=.returned (.bool true)/\Below w.heap.size w w'):=by
 have hs:Hid (sgnQ r=0):=sgnQ_zero.2 h0
 clear h0
 obtain ⟨W0,hW0⟩:∃W0,W0=(w.alloc (.cells #[a1,a2,a3,a4] 32)).alloc (.cells #[b1,b2,b3,b4] 32):=⟨_,rfl⟩
 have hbw:Below w.heap.size w W0:=by rw[hW0];exact (((Below.refl _ _).alloc (Nat.le_refl _) _).alloc (by simp) _)
 have tA:Four W0 (w.heap.size) a1 a2 a3 a4:=by
  have h:=Four.new w a1 a2 a3 a4 32
  rw[hW0];exact (h.alloc _)
 have tB:Four W0 (w.heap.size+1) b1 b2 b3 b4:=by
  have h:=Four.new (w.alloc (.cells #[a1,a2,a3,a4] 32)) b1 b2 b3 b4 32
  rw[World.size_alloc]at h
  rw[hW0];exact h
 replace hA:=hA.to hbw
 replace hB:=hB.to hbw
 have HW0:=Hd hW0
 have HB:=Hd hbw
 clear hW0 hbw
 go_enter Tryz.func89,Tryz.ntmps89
 go_wp2_with fail
 rw[<-HW0.out]
 clear HW0
 have kktA0:=tA.c0
 have kktA1:=tA.c1
 have kktA2:=tA.c2
 have kktA3:=tA.c3
 have kktB0:=tB.c0
 have kktB1:=tB.c1
 have kktB2:=tB.c2
 have kktB3:=tB.c3
 go_wp2_with fail
 refine (sign_q hA hs.out).mono ?_
 rintro e V1 ⟨rfl,bb⟩
 clear kktA0 kktA1 kktA2 kktA3 kktB0 kktB1 kktB2 kktB3
 replace tA:=tA.to bb
 replace tB:=tB.to bb
 replace HB:=Hxb HB bb
 clear bb
 clear tA tB
 go_wp2
 go_ret
 exact ⟨rfl,HB.out⟩
theorem zp_f {w:World}{a1 a2 a3 a4 b1 b2 b3 b4:Value}{r s:Rat}{k l:Nat}(hA:Qi w a1 a2 a3 a4 r k)(hB:Qi w b1 b2 b3 b4 s l)(h0:r≠0){v:Bool}(hv:decide (s=0)=v) :
  Calls Tryz.prog 89 #[.agg #[a1,a2,a3,a4],.agg #[b1,b2,b3,b4]] w (fun e w'=>e=.returned (.bool v)/\Below w.heap.size w w'):=by
 obtain ⟨x,hx⟩:∃x,sgnQ r=x:=⟨_,rfl⟩
 obtain ⟨y,hy⟩:∃y,sgnQ s=y:=⟨_,rfl⟩
 have e1:(x==0)=false:=by rw[beq_eq_false_iff_ne,<-hx];exact fun h=>h0 (sgnQ_zero.1 h)
 have e2:(y==0)=v:=by rw[<-hv,<-hy,Bool.eq_iff_iff];simp[sgnQ_zero]
 have HX:=Hd hx
 have HY:=Hd hy
 clear hx hy h0 hv
 obtain ⟨W0,hW0⟩:∃W0,W0=(w.alloc (.cells #[a1,a2,a3,a4] 32)).alloc (.cells #[b1,b2,b3,b4] 32):=⟨_,rfl⟩
 have hbw:Below w.heap.size w W0:=by rw[hW0];exact (((Below.refl _ _).alloc (Nat.le_refl _) _).alloc (by simp) _)
 have tA:Four W0 (w.heap.size) a1 a2 a3 a4:=by
  have h:=Four.new w a1 a2 a3 a4 32
  rw[hW0];exact (h.alloc _)
 have tB:Four W0 (w.heap.size+1) b1 b2 b3 b4:=by
  have h:=Four.new (w.alloc (.cells #[a1,a2,a3,a4] 32)) b1 b2 b3 b4 32
  rw[World.size_alloc]at h
  rw[hW0];exact h
 replace hA:=hA.to hbw
 replace hB:=hB.to hbw
 have HW0:=Hd hW0
 have HB:=Hd hbw
 clear hW0 hbw
 go_enter Tryz.func89,Tryz.ntmps89
 go_wp2_with fail
 rw[<-HW0.out]
 clear HW0
 have kktA0:=tA.c0
 have kktA1:=tA.c1
 have kktA2:=tA.c2
 have kktA3:=tA.c3
 have kktB0:=tB.c0
 have kktB1:=tB.c1
 have kktB2:=tB.c2
 have kktB3:=tB.c3
 go_wp2_with fail
 refine (sign_q hA HX.out).mono ?_
 rintro e V1 ⟨rfl,bb⟩
 clear kktA0 kktA1 kktA2 kktA3 kktB0 kktB1 kktB2 kktB3
 replace tA:=tA.to bb
 replace tB:=tB.to bb
 replace hB:=hB.to bb
 replace HB:=Hxb HB bb
 clear bb
 have kktA0:=tA.c0
 have kktA1:=tA.c1
 have kktA2:=tA.c2
 have kktA3:=tA.c3
 have kktB0:=tB.c0
 have kktB1:=tB.c1
 have kktB2:=tB.c2
 have kktB3:=tB.c3
 go_wp2_with fail
 refine (sign_q hB HY.out).mono ?_
 rintro e V2 ⟨rfl,bb⟩
 clear kktA0 kktA1 kktA2 kktA3 kktB0 kktB1 kktB2 kktB3
 replace tA:=tA.to bb
 replace tB:=tB.to bb
 replace HB:=Hxb HB bb
 clear bb
 clear tA tB
 go_wp2
 go_ret
 exact ⟨rfl,HB.out⟩
theorem zp_v {w:World}{a1 a2 a3 a4 b1 b2 b3 b4:Value}{r s:Rat}{k l:Nat}(hA:Qi w a1 a2 a3 a4 r k)(hB:Qi w b1 b2 b3 b4 s l){v:Bool}(hv:decide (r=0∨s=0)=v):Calls Tryz.prog 89 #[.agg #[a1,a2,a3,a4],.agg #[b1,b2,b3,b4]] w fun e w'=>e=.returned (.bool v)/\Below w.heap.size w w':=by
 by_cases h0:r=0
 .rw[<-hv,decide_eq_true (.inl h0)];exact zp_t hA hB h0
 .exact zp_f hA hB h0 (by rw[<-hv,decide_eq_decide];exact ⟨.inr,fun h=>h.resolve_left h0⟩)
def Racc (W:World)(g N k:Nat)(f:Nat->Rat):Prop:=∃fl,Row W g fl/\fl.length=N/\∀i,i<k->Qc W (fl.getD i E4.z).a (fl.getD i E4.z).b (fl.getD i E4.z).c (fl.getD i E4.z).d (f i)
theorem Racc.to {W V:World}{g N k:Nat}{f:Nat->Rat}(h:Racc W g N k f)(hb:Below W.heap.size W V):Racc V g N k f:=by
 obtain ⟨fl,h1,h2,h3⟩:=h
 exact ⟨fl,h1.to hb,h2,fun i hi=>(h3 i hi).to hb⟩
theorem Racc.lt {W:World}{g N k:Nat}{f:Nat->Rat}(h:Racc W g N k f):g<W.heap.size:=by
 obtain ⟨fl,h1,h2,h3⟩:=h
 exact h1.lt
theorem Racc.set {W:World}{g N k:Nat}{f:Nat->Rat}{fl:List E4}(h1:Row W g fl)(h2:fl.length=N)(h3:∀i,i<k->Qc W (fl.getD i E4.z).a (fl.getD i E4.z).b (fl.getD i E4.z).c (fl.getD i E4.z).d (f i))(hk:k<N){e:E4}(he:e.fq)(hq:Qc W e.a e.b e.c e.d (f k)) :
  Racc (W.setRow g (flat (fl.set k e)).toArray) g N (k+1) f:=by
 have kw:Kw W (W.setRow g (flat (fl.set k e)).toArray):=h1.kw
 refine ⟨fl.set k e,h1.app he,by simpa using h2,fun i hi=>?_⟩
 by_cases hik:i=k
 .subst hik
  rw[show (fl.set i e).getD i E4.z=e from by simp[List.getD,show i<fl.length by omega]]
  exact kw.qc hq
 .rw[show (fl.set k e).getD i E4.z=fl.getD i E4.z from by simp[List.getD,List.getElem?_set,Ne.symm hik]]
  exact kw.qc (h3 i (by omega))
theorem Racc.more {W:World}{g N k:Nat}{f:Nat->Rat}(h:Racc W g N k f)(hk:k<N){e:E4}(he:e.fq)(hq:Qc W e.a e.b e.c e.d (f k)){a:Addr}{c:Nat}
  (h0:W.cell? (a.add 0)=some e.a) (h1:W.cell? (a.add 1)=some e.b) (h2:W.cell? (a.add 2)=some e.c) (h3:W.cell? (a.add 3)=some e.d) (ty:TypeId) :
  ∃X,(Builtin.append_ #[38,38] ty #[.slice (some ⟨g,0,none⟩) k N,.slice (some a) 1 c]).run Tryz.prog W=.ok (.slice (some ⟨g,0,none⟩) (k+1) N) X/\Racc X g N (k+1) f/\∀B,B<=g->Below B W X:=by
 obtain ⟨fl,r1,rfl,r3⟩:=h
 exact ⟨_,append_q r1 hk he h0 h1 h2 h3 (c:=c) ty,Racc.set r1 rfl r3 hk he hq,fun B hB=>below_setRow (Below.refl _ _) hB _⟩
theorem run_storeq {W:World}{g k:Nat}{fl:List E4}{e:E4}(h:Row W g fl)(hk:k<fl.length)(he:e.fq) :
  (Instr.storeAt 32 (.pointer (some ⟨g,k*4,none⟩)) e.v).run Tryz.prog W=.ok () (W.setRow g (flat (fl.set k e)).toArray):=by
 obtain ⟨i0,hi,hz0,hz1,hz2⟩:=info_parts infoQ
 have hst:=run_storeCells_at Tryz.prog g (k*4) 32 [e.a,e.b,e.c,e.d] 0 _ W h.heap (by simp[flat_length];omega) (fq_cells he)
 have e1:fl.set k e=fl.take k++e::fl.drop (k+1):=by rw[List.set_eq_take_append_cons_drop,if_pos hk]
 have e2:(flat fl).drop (k*4+4)=flat (fl.drop (k+1)):=by rw[show k*4+4=(k+1)*4 from by omega,flat_drop]
 rw[e1,flat_app]
 simp only[List.toList_toArray,Nat.add_zero,flat_take,List.length_cons,List.length_nil,Nat.reduceAdd,e2,List.append_assoc,List.cons_append,List.nil_append]at hst
 have e3:e.v.cells=#[e.a,e.b,e.c,e.d]:=rfl
 simp[Instr.storeAt,Instr.sureAddr,storeVar,sizeOf,typeInfo,hi,hz1,e3,hst,flat]
theorem wpList_storeq {W:World}{ops:Array Oper}{rest:List Oper}{o:Oper}{a:Act}{Q:Exit->Act->World->Prop}{g k:Nat}{fl:List E4}{e:E4}
  (hg:o.guard=none) (p v:Operand) (hop:o.op=Op.store 32 p v) (hp:a.eval p=.pointer (some ⟨g,k*4,none⟩)) (hv:a.eval v=e.v) (h:Row W g fl) (hk:k<fl.length) (he:e.fq)
  (hK:wpList Tryz.prog ops Q rest (a.put o.dst undef) (W.setRow g (flat (fl.set k e)).toArray)):wpList Tryz.prog ops Q (o::rest) a W:=by
 refine wpList_plain hg fun K hK'=>?_
 have hrun:=run_storeq h hk he
 unfold Oper.wp
 simp[execOp,hop,hp,hv,hrun,Result.andThen]
 exact hK' _ _ hK
def ratsOf (ns:List Int):List Rat:=ns.map fun n:Int=>(n:Rat)
theorem ratsOf_length (ns:List Int):(ratsOf ns).length=ns.length:=by simp[ratsOf]
theorem ratsOf_getD {ns:List Int}{i:Nat}(h:i<ns.length):(ratsOf ns).getD i 0=((ns.getD i 0:Int):Rat):=by simp[ratsOf,List.getD,h]
def Rn (W:World)(A:Option Addr)(ns:List Int):Prop:=∀(k:Nat) (h:k<ns.length),∃b o,A=some ⟨b,o,none⟩/\W.cell? ⟨b,o+k,none⟩=some (.int .i64 ns[k])
theorem ints_v {w:World}{A:Option Addr}{c:Nat}{ns:List Int}(h:Rn w A ns)(hn:∀n∈ns,-9223372036854775808<=n/\n<=9223372036854775807)(hl:ns.length<=4398046511104) :
  Calls Tryz.prog 49 #[.slice A ns.length c] w (VR w (ratsOf ns)):=by
 have H:=Hd h
 have HN:=Hd hn
 have HL:=Hd hl
 obtain ⟨f,hf⟩:∃f:Nat->Rat,Hid (f=fun i=>((ns.getD i 0:Int):Rat)):=⟨_,rfl⟩
 obtain ⟨N,hN⟩:∃N,ns.length=N:=⟨_,rfl⟩
 have HNN:=Hd hN
 rw[hN]at hl HL ⊢
 clear h hn hN
 go_enter Tryz.func49,Tryz.ntmps49
 go_wp2_with (at_make;refine wpList_makeq _ rfl _ _ rfl 0 N rfl rfl (by omega) (by omega) (Nat.zero_le _) HL.out ?_)
 have hacc:Racc (w.alloc (.cells (flat (List.replicate N E4.z)).toArray 32)) w.heap.size N 0 f:=⟨_,Row.new w N,by simp,fun i hi=>by omega⟩
 have hbw:Below w.heap.size w (w.alloc (.cells (flat (List.replicate N E4.z)).toArray 32)):=(Below.refl _ _).alloc (Nat.le_refl _) _
 generalize w.alloc (.cells (flat (List.replicate N E4.z)).toArray 32)=w1 at hacc hbw ⊢
 go_loopw [3,11] (fun v i wr=>∃k:Nat,v=.slice (some ⟨w.heap.size,0,none⟩) k N/\i=.int .i64 k/\k<=N/\Racc wr w.heap.size N k f/\Below w.heap.size w wr) (fun _ i _=>N-(intOf i).toNat)
 case atStart=>exact ⟨0,rfl,rfl,Nat.zero_le _,hacc,hbw⟩
 case round =>
  obtain ⟨k,rfl,rfl,hk,hra,hb⟩:=hrel
  clear hacc hbw
  by_cases hlt:k<N
  .have hk1:(0:Int)<=(k:Int):=by omega
   have hk2:(k:Int)<(N:Int):=by omega
   have hk3:(k:Int)+1<=9223372036854775807:=by omega
   have hkn:k<ns.length:=by have:=HNN.out;omega
   obtain ⟨b,o,rfl,hc⟩:=H.out k hkn
   have hbn:=HN.out _ (List.getElem_mem hkn)
   have hfk:Hid (f k=((ns[k]:Int):Rat)):=by show _=_;rw[hf.out];simp[List.getD,hkn]
   have cc:=(hb.cell (p:=⟨b,o+k,none⟩) (World.block_lt_of_cell? w _ hc)).trans hc
   generalize ns[k]=n at hbn hfk cc
   have HR:=Hd hra
   have HB:=Hd hb
   have HLT:=Hd hlt
   have HBN:=Hd hbn
   clear hc hra hb hkn hbn hlt
   go_wp2_with fail
   refine (fromInt_q n HBN.out.1 HBN.out.2 wr).mono ?_
   rintro e V ⟨x1,x2,x3,x4,rfl,q,bb⟩
   have hra:=HR.out.to bb
   have bb2:Below V.heap.size V (V.alloc (.cells #[x1,x2,x3,x4] 32)):=(Below.refl _ _).alloc (Nat.le_refl _) _
   have c5:=(Hp.new V #[x1,x2,x3,x4] 32).four
   obtain ⟨X,hrun,hra',hbel⟩:=(hra.to bb2).more HLT.out (e:=⟨x1,x2,x3,x4⟩) q.fq (by rw[hfk.out];exact q.to bb2) (a:=⟨V.heap.size,0,none⟩) (c:=1) c5.c0 c5.c1 c5.c2 c5.c3 38
   have HRUN:=Hd hrun
   have HE:Hid (Racc X w.heap.size N (k+1) f/\Below w.heap.size w X):=⟨hra',((HB.out.trans (bb.mono HB.out.size)).trans (bb2.mono (by have:=bb.size;have:=HB.out.size;omega))).trans (hbel _ (Nat.le_refl _))⟩
   clear hra bb2 c5 hra' hbel hrun bb q
   go_wp2_with (at_builtin;refine wpList_append_run rfl (.tmp 15) (.tmp 18) 38 rfl (by rfl) (by rfl) HRUN.out ?_;clear HRUN)
   go_roundw
   case rel=>exact ⟨k+1,rfl,by simp,HLT.out,HE.out.1,HE.out.2⟩
   case measure=>have:=HLT.out;simp[intOf];omega
  .obtain rfl:k=N:=by omega
   have HR:=Hd hra
   have HB:=Hd hb
   clear hra hb hlt
   go_wp2
   go_ret
   obtain ⟨fl,r1,r2,r3⟩:=HR.out
   refine ⟨some ⟨w.heap.size,0,none⟩,k,fl,(by rw[ratsOf_length,HNN.out];rfl),r1.vc r2 (by rw[ratsOf_length,HNN.out]) HL.out fun i hi=>?_,HB.out⟩
   have h:=r3 i hi
   rw[hf.out]at h
   rw[ratsOf_getD (by rw[HNN.out];exact hi)]
   exact h
end Go.Proofs.YtglhdielkkhefaaGreat
