/- Parts: 6. -/
import Derived.Test.YtiifpobhmnplaaaGreatVs17
import Derived.Test.YtiifpobhmnplaaaGreatVs20
import Derived.Test.YtiifpobhmnplaaaGreatVs23
import Derived.Deep.Slices
set_option linter.unusedVariables false
set_option linter.unusedSimpArgs false
set_option maxRecDepth 100000
set_option maxHeartbeats 40000000

namespace Go.Proofs.YtiifpobhmnplaaaGreat
open Go.RowKit Go.Shelf
theorem flong_o (g o:Nat)(A:Option Addr)(ls:List (Nat×Nat))(cap:Nat)(w:World)(hA:∀(k:Nat),k<ls.length->A=some ⟨g,o,none⟩/\g<w.heap.size)
  (h:∀(k:Nat) (hk:k<ls.length),∃n1 A1 c1 n2 A2 c2,w.cell? ⟨g,o+k*4,none⟩=some (.bool n1)/\w.cell? ⟨g,o+k*4+1,none⟩=some (.slice A1 ls[k].1 c1)/\w.cell? ⟨g,o+k*4+2,none⟩=some (.bool n2)/\w.cell? ⟨g,o+k*4+3,none⟩=some (.slice A2 ls[k].2 c2))
  (hs:∀(k:Nat) (hk:k<ls.length),ls[k].1<=9223372036854775807/\ls[k].2<=9223372036854775807) (hl:ls.length<=1000) {r:Bool} (hr:(ls.any fun p=>decide (6<p.1)||decide (6<p.2))=r) :
  Calls Tryz.prog 12 #[.slice A ls.length cap] w fun e w'=>e=.returned (.bool r)/\Below w.heap.size w w':=by
 have H:=Hd h
 have HS:=Hd hs
 have HA:=Hd hA
 have HR:=Hd hr
 clear h hs hA hr
 go_enter Tryz.func12,Tryz.ntmps12
 go_wp2
 go_loopw [3] (fun i wr=>∃k:Nat,i=.int .i64 k/\k<=ls.length/\(∀j (hj:j<ls.length),j<k->ls[j].1<=6/\ls[j].2<=6)/\Below w.heap.size w wr) (fun i _=>ls.length-(intOf i).toNat)
 case atStart=>exact ⟨0,rfl,Nat.zero_le _,(fun j _ hj=>by omega),Below.refl _ _⟩
 case round =>
  obtain ⟨k,rfl,hk,ht,hb⟩:=hrel
  have HT:=Hd ht
  have HB:=Hd hb
  clear ht hb
  by_cases hlt:k<ls.length
  .obtain ⟨rfl,hg⟩:=HA.out k hlt
   have HG:=Hd hg
   clear hg
   have hc:=H.out k hlt
   have hm:=HS.out k hlt
   have hki:(0:Int)<=(k:Int):=by omega
   have hki':(k:Int)<(ls.length:Int):=by omega
   have HN:Hid (ls[k]=ls[k]):=rfl
   obtain ⟨⟨m1,m2⟩,hn⟩:∃m,ls[k]=m:=⟨_,rfl⟩
   rw[hn]at hc hm
   have HN2:=Hd hn
   obtain ⟨n1,A1,c1,n2,A2,c2,hc⟩:=hc
   have HF:Hid (∀w',Below w.heap.size w w'->w'.cell? ⟨g,o+k*4,none⟩=some (.bool n1)/\w'.cell? ⟨g,o+k*4+1,none⟩=some (.slice A1 m1 c1)/\w'.cell? ⟨g,o+k*4+2,none⟩=some (.bool n2)/\w'.cell? ⟨g,o+k*4+3,none⟩=some (.slice A2 m2 c2)):=fun w' hS =>
    ⟨(hS.cell (p:=⟨g,o+k*4,none⟩) HG.out).trans hc.1,(hS.cell (p:=⟨g,o+k*4+1,none⟩) HG.out).trans hc.2.1,(hS.cell (p:=⟨g,o+k*4+2,none⟩) HG.out).trans hc.2.2.1,(hS.cell (p:=⟨g,o+k*4+3,none⟩) HG.out).trans hc.2.2.2⟩
   have M1:=Hd hm.1
   have M2:=Hd hm.2
   clear hc hm hn HN
   by_cases ha:12<m1∨12<m2
   .have HL:Hid ([m1,m2].any (fun n=>decide (12<n))=true):=by show _=_;simpa using ha
    have hany:Hid ((ls.any fun p=>decide (6<p.1)||decide (6<p.2))=true):=by
     show _=_
     rw[List.any_eq_true]
     exact ⟨ls[k],List.getElem_mem hlt,by rw[HN2.out];simp;omega⟩
    clear ha
    go_wp2_with fail
    refine wp_region_plan (S:=fun w'=>Below w.heap.size w w') [(0,true),(1,true),(2,true),(3,true),(4,true),(5,true),(6,true),(7,true),(8,true),(9,true),(10,false),(11,false),(12,true),(13,true),(14,true),(15,true),(16,true),(17,true),(18,true),(19,true),(20,true),(21,true),(22,true),(23,true),(24,true),(25,true),(26,true),(27,true),(28,true),(29,true),(30,true),(31,true)] (by kernel_rfl) (by kernel_rfl) HB.out.drew ?_
    have hb:=HB.out.drew
    iterate 10 (refine plan_take (v:=?_) rfl (by rfl) ?_ ?_;rotate_left;(focus (intro w' hS;obtain ⟨f0,f1,f2,f3⟩:=HF.out w' hS;go_simp;try with_reducible rfl));simp only[Act.put,List.setIfInBounds_toArray,List.set_cons_zero,List.set_cons_succ])
    refine plan_call rfl (by rfl) (fun K hK=>?_)
    go_simp
    have hnew:=(Four.new wr (.bool n1) (.slice A1 m1 c1) (.bool n2) (.slice A2 m2 c2) 24).to (Below.refl _ _).drew
    replace hb:=hb.alloc hb.size (.cells #[.bool n1,.slice A1 m1 c1,.bool n2,.slice A2 m2 c2] 24)
    refine hK.out _ _ hb ?_
    clear hK K
    refine plan_call rfl (by rfl) (fun K hK=>?_)
    go_simp
    refine (long_2 M1.out M2.out hnew.c1 hnew.c3 HL.out).mono ?_
    rintro e V ⟨rfl,rfl⟩
    refine hK.out _ _ hb ?_
    clear hK K hnew
    refine plan_take (v:=?_) rfl (by rfl) ?_ ?_;rotate_left;(focus (intro w' hS;go_simp;try with_reducible rfl));simp only[Act.put,List.setIfInBounds_toArray,List.set_cons_zero,List.set_cons_succ]
    iterate 8 (refine plan_skip rfl (by rfl) ?_;simp only[Act.put,List.setIfInBounds_toArray,List.set_cons_zero,List.set_cons_succ])
    iterate 2 (refine plan_take (v:=?_) rfl (by rfl) ?_ ?_;rotate_left;(focus (intro w' hS;go_simp;try with_reducible rfl));simp only[Act.put,List.setIfInBounds_toArray,List.set_cons_zero,List.set_cons_succ])
    iterate 8 (refine plan_skip rfl (by rfl) ?_;simp only[Act.put,List.setIfInBounds_toArray,List.set_cons_zero,List.set_cons_succ])
    refine plan_take (v:=?_) rfl (by rfl) ?_ ?_;rotate_left;(focus (intro w' hS;go_simp;try with_reducible rfl));simp only[Act.put,List.setIfInBounds_toArray,List.set_cons_zero,List.set_cons_succ]
    refine plan_done ?_
    have HE:=Hd hb
    clear hb HB
    go_wp2
    go_ret
    exact ⟨by rw[<-HR.out,hany.out];rfl,HE.out⟩
   .have HL:Hid ([m1,m2].any (fun n=>decide (12<n))=false):=by show _=_;simpa using ha
    by_cases hb6:6<m1
    .have hany:Hid ((ls.any fun p=>decide (6<p.1)||decide (6<p.2))=true):=by
      show _=_
      rw[List.any_eq_true]
      exact ⟨ls[k],List.getElem_mem hlt,by rw[HN2.out];simp;omega⟩
     clear ha
     have d1:decide ((6:Int)<(m1:Int))=true:=by simp;omega
     clear hb6
     go_wp2_with fail
     refine wp_region_plan (S:=fun w'=>Below w.heap.size w w') [(0,true),(1,true),(2,true),(3,true),(4,true),(5,true),(6,true),(7,true),(8,true),(9,true),(10,false),(11,false),(12,true),(13,true),(14,true),(15,true),(16,true),(17,true),(18,true),(19,true),(20,true),(21,true),(22,true),(23,true),(24,true),(25,true),(26,true),(27,true),(28,true),(29,true),(30,true),(31,true)] (by kernel_rfl) (by kernel_rfl) HB.out.drew ?_
     have hb:=HB.out.drew
     iterate 10 (refine plan_take (v:=?_) rfl (by rfl) ?_ ?_;rotate_left;(focus (intro w' hS;obtain ⟨f0,f1,f2,f3⟩:=HF.out w' hS;go_simp;try with_reducible rfl));simp only[Act.put,List.setIfInBounds_toArray,List.set_cons_zero,List.set_cons_succ])
     refine plan_call rfl (by rfl) (fun K hK=>?_)
     go_simp
     have hnew:=(Four.new wr (.bool n1) (.slice A1 m1 c1) (.bool n2) (.slice A2 m2 c2) 24).to (Below.refl _ _).drew
     replace hb:=hb.alloc hb.size (.cells #[.bool n1,.slice A1 m1 c1,.bool n2,.slice A2 m2 c2] 24)
     refine hK.out _ _ hb ?_
     clear hK K
     refine plan_call rfl (by rfl) (fun K hK=>?_)
     go_simp
     refine (long_2 M1.out M2.out hnew.c1 hnew.c3 HL.out).mono ?_
     rintro e V ⟨rfl,rfl⟩
     refine hK.out _ _ hb ?_
     clear hK K hnew
     iterate 3 (refine plan_take (v:=?_) rfl (by rfl) ?_ ?_;rotate_left;(focus (intro w' hS;go_simp;try with_reducible rfl));simp only[Act.put,List.setIfInBounds_toArray,List.set_cons_zero,List.set_cons_succ])
     iterate 4 (refine plan_take (v:=?_) rfl (by rfl) ?_ ?_;rotate_left;(focus (intro w' hS;obtain ⟨f0,f1,f2,f3⟩:=HF.out w' hS;go_simp;try with_reducible rfl));simp only[Act.put,List.setIfInBounds_toArray,List.set_cons_zero,List.set_cons_succ])
     iterate 4 (refine plan_take (v:=?_) rfl (by rfl) ?_ ?_;rotate_left;(focus (intro w' hS;go_simp;try with_reducible rfl));simp only[Act.put,List.setIfInBounds_toArray,List.set_cons_zero,List.set_cons_succ])
     iterate 8 (refine plan_skip rfl (by rfl) ?_;simp only[Act.put,List.setIfInBounds_toArray,List.set_cons_zero,List.set_cons_succ])
     refine plan_take (v:=?_) rfl (by rfl) ?_ ?_;rotate_left;(focus (intro w' hS;go_simp;try with_reducible rfl));simp only[Act.put,List.setIfInBounds_toArray,List.set_cons_zero,List.set_cons_succ]
     refine plan_done ?_
     have HE:=Hd hb
     clear hb HB
     go_wp2
     go_ret
     exact ⟨by rw[<-HR.out,hany.out];rfl,HE.out⟩
    .by_cases hc6:6<m2
     .have hany:Hid ((ls.any fun p=>decide (6<p.1)||decide (6<p.2))=true):=by
       show _=_
       rw[List.any_eq_true]
       exact ⟨ls[k],List.getElem_mem hlt,by rw[HN2.out];simp;omega⟩
      clear ha
      have d1:decide ((6:Int)<(m1:Int))=false:=by simp;omega
      have d2:decide ((6:Int)<(m2:Int))=true:=by simp;omega
      clear hb6 hc6
      go_wp2_with fail
      refine wp_region_plan (S:=fun w'=>Below w.heap.size w w') [(0,true),(1,true),(2,true),(3,true),(4,true),(5,true),(6,true),(7,true),(8,true),(9,true),(10,false),(11,false),(12,true),(13,true),(14,true),(15,true),(16,true),(17,true),(18,true),(19,true),(20,true),(21,true),(22,true),(23,true),(24,true),(25,true),(26,true),(27,true),(28,true),(29,true),(30,true),(31,true)] (by kernel_rfl) (by kernel_rfl) HB.out.drew ?_
      have hb:=HB.out.drew
      iterate 10 (refine plan_take (v:=?_) rfl (by rfl) ?_ ?_;rotate_left;(focus (intro w' hS;obtain ⟨f0,f1,f2,f3⟩:=HF.out w' hS;go_simp;try with_reducible rfl));simp only[Act.put,List.setIfInBounds_toArray,List.set_cons_zero,List.set_cons_succ])
      refine plan_call rfl (by rfl) (fun K hK=>?_)
      go_simp
      have hnew:=(Four.new wr (.bool n1) (.slice A1 m1 c1) (.bool n2) (.slice A2 m2 c2) 24).to (Below.refl _ _).drew
      replace hb:=hb.alloc hb.size (.cells #[.bool n1,.slice A1 m1 c1,.bool n2,.slice A2 m2 c2] 24)
      refine hK.out _ _ hb ?_
      clear hK K
      refine plan_call rfl (by rfl) (fun K hK=>?_)
      go_simp
      refine (long_2 M1.out M2.out hnew.c1 hnew.c3 HL.out).mono ?_
      rintro e V ⟨rfl,rfl⟩
      refine hK.out _ _ hb ?_
      clear hK K hnew
      iterate 3 (refine plan_take (v:=?_) rfl (by rfl) ?_ ?_;rotate_left;(focus (intro w' hS;go_simp;try with_reducible rfl));simp only[Act.put,List.setIfInBounds_toArray,List.set_cons_zero,List.set_cons_succ])
      iterate 4 (refine plan_take (v:=?_) rfl (by rfl) ?_ ?_;rotate_left;(focus (intro w' hS;obtain ⟨f0,f1,f2,f3⟩:=HF.out w' hS;go_simp;try with_reducible rfl));simp only[Act.put,List.setIfInBounds_toArray,List.set_cons_zero,List.set_cons_succ])
      iterate 6 (refine plan_take (v:=?_) rfl (by rfl) ?_ ?_;rotate_left;(focus (intro w' hS;go_simp;try with_reducible rfl));simp only[Act.put,List.setIfInBounds_toArray,List.set_cons_zero,List.set_cons_succ])
      iterate 4 (refine plan_take (v:=?_) rfl (by rfl) ?_ ?_;rotate_left;(focus (intro w' hS;obtain ⟨f0,f1,f2,f3⟩:=HF.out w' hS;go_simp;try with_reducible rfl));simp only[Act.put,List.setIfInBounds_toArray,List.set_cons_zero,List.set_cons_succ])
      iterate 3 (refine plan_take (v:=?_) rfl (by rfl) ?_ ?_;rotate_left;(focus (intro w' hS;go_simp;try with_reducible rfl));simp only[Act.put,List.setIfInBounds_toArray,List.set_cons_zero,List.set_cons_succ])
      refine plan_done ?_
      have HE:=Hd hb
      clear hb HB
      go_wp2
      go_ret
      exact ⟨by rw[<-HR.out,hany.out];rfl,HE.out⟩
     .have hok:Hid (m1<=6/\m2<=6):=by show _/\_;omega
      clear ha
      have d1:decide ((6:Int)<(m1:Int))=false:=by simp;omega
      have d2:decide ((6:Int)<(m2:Int))=false:=by simp;omega
      clear hb6 hc6
      go_wp2_with fail
      refine wp_region_plan (S:=fun w'=>Below w.heap.size w w') [(0,true),(1,true),(2,true),(3,true),(4,true),(5,true),(6,true),(7,true),(8,true),(9,true),(10,false),(11,false),(12,true),(13,true),(14,true),(15,true),(16,true),(17,true),(18,true),(19,true),(20,true),(21,true),(22,true),(23,true),(24,true),(25,true),(26,true),(27,true),(28,true),(29,true),(30,true),(31,true)] (by kernel_rfl) (by kernel_rfl) HB.out.drew ?_
      have hb:=HB.out.drew
      iterate 10 (refine plan_take (v:=?_) rfl (by rfl) ?_ ?_;rotate_left;(focus (intro w' hS;obtain ⟨f0,f1,f2,f3⟩:=HF.out w' hS;go_simp;try with_reducible rfl));simp only[Act.put,List.setIfInBounds_toArray,List.set_cons_zero,List.set_cons_succ])
      refine plan_call rfl (by rfl) (fun K hK=>?_)
      go_simp
      have hnew:=(Four.new wr (.bool n1) (.slice A1 m1 c1) (.bool n2) (.slice A2 m2 c2) 24).to (Below.refl _ _).drew
      replace hb:=hb.alloc hb.size (.cells #[.bool n1,.slice A1 m1 c1,.bool n2,.slice A2 m2 c2] 24)
      refine hK.out _ _ hb ?_
      clear hK K
      refine plan_call rfl (by rfl) (fun K hK=>?_)
      go_simp
      refine (long_2 M1.out M2.out hnew.c1 hnew.c3 HL.out).mono ?_
      rintro e V ⟨rfl,rfl⟩
      refine hK.out _ _ hb ?_
      clear hK K hnew
      iterate 3 (refine plan_take (v:=?_) rfl (by rfl) ?_ ?_;rotate_left;(focus (intro w' hS;go_simp;try with_reducible rfl));simp only[Act.put,List.setIfInBounds_toArray,List.set_cons_zero,List.set_cons_succ])
      iterate 4 (refine plan_take (v:=?_) rfl (by rfl) ?_ ?_;rotate_left;(focus (intro w' hS;obtain ⟨f0,f1,f2,f3⟩:=HF.out w' hS;go_simp;try with_reducible rfl));simp only[Act.put,List.setIfInBounds_toArray,List.set_cons_zero,List.set_cons_succ])
      iterate 6 (refine plan_take (v:=?_) rfl (by rfl) ?_ ?_;rotate_left;(focus (intro w' hS;go_simp;try with_reducible rfl));simp only[Act.put,List.setIfInBounds_toArray,List.set_cons_zero,List.set_cons_succ])
      iterate 4 (refine plan_take (v:=?_) rfl (by rfl) ?_ ?_;rotate_left;(focus (intro w' hS;obtain ⟨f0,f1,f2,f3⟩:=HF.out w' hS;go_simp;try with_reducible rfl));simp only[Act.put,List.setIfInBounds_toArray,List.set_cons_zero,List.set_cons_succ])
      iterate 3 (refine plan_take (v:=?_) rfl (by rfl) ?_ ?_;rotate_left;(focus (intro w' hS;go_simp;try with_reducible rfl));simp only[Act.put,List.setIfInBounds_toArray,List.set_cons_zero,List.set_cons_succ])
      refine plan_done ?_
      have HE:=Hd hb
      clear hb HB
      go_wp2
      go_roundw
      case rel=>exact ⟨k+1,by simp,by omega,(fun j hj hjk=>by
       rcases Nat.lt_or_ge j k with h1|h1
       .exact HT.out j hj h1
       .obtain rfl:j=k:=by omega
        rw[HN2.out];exact hok.out),HE.out⟩
      case measure=>simp[intOf];omega
  .obtain rfl:k=ls.length:=by omega
   clear hlt
   go_wp2
   go_ret
   refine ⟨?_,HB.out⟩
   have:(ls.any fun p=>decide (6<p.1)||decide (6<p.2))=false:=by
    rw[List.any_eq_false]
    intro x hx
    obtain ⟨j,hj,rfl⟩:=List.getElem_of_mem hx
    have:=HT.out j hj hj
    simp;omega
   rw[<-HR.out,this]
   rfl
def ZxE (W:World)(e:E4):Prop:=Zx2 W e.a e.b/\Zx2 W e.c e.d
theorem Zx2.to {W V:World}{x y:Value}(h:Zx2 W x y)(hb:Below W.heap.size W V):Zx2 V x y:=by
 obtain ⟨n,A,c,xs,h1,h2,h3,h4⟩:=h
 exact ⟨n,A,c,xs,h1,h2,h3.to hb,h4⟩
theorem ZxE.to {W V:World}{e:E4}(h:ZxE W e)(hb:Below W.heap.size W V):ZxE V e:=⟨h.1.to hb,h.2.to hb⟩
theorem ZxE.fq {W:World}{e:E4}(h:ZxE W e):e.fq:=by
 obtain ⟨⟨n,A,c,xs,h1,h2,_⟩,⟨m,B,d,ys,h3,h4,_⟩⟩:=h
 exact ⟨⟨n,A,xs.length,c,h1,h2⟩,⟨m,B,ys.length,d,h3,h4⟩⟩
def vlen : Value->Nat
 | .slice _ n _=>n
 | _=>0
def lngE (e:E4):Bool:=decide (6<vlen e.b)||decide (6<vlen e.d)
def lngV (es:List E4):Bool:=decide (20<es.length)||es.any lngE
structure VA where
 A:Option Addr
 c:Nat
 es:List E4
structure VIn (W:World)(v:VA):Prop where
 row:Rq W W.heap.size v.A v.es
 el:∀e∈v.es,ZxE W e
 cap:v.es.length<=v.c
 c63:v.c<=9223372036854775807
theorem VIn.to {W V:World}{v:VA}(h:VIn W v)(hb:Below W.heap.size W V):VIn V v:=⟨h.row.to hb,fun e he=>(h.el e he).to hb,h.cap,h.c63⟩
theorem flong_v {w:World}{v:VA}(h:VIn w v)(hl:v.es.length<=1000){r:Bool}(hr:v.es.any lngE=r) :
  Calls Tryz.prog 12 #[.slice v.A v.es.length v.c] w fun e w'=>e=.returned (.bool r)/\Below w.heap.size w w':=by
 obtain ⟨A,c,es⟩:=v
 obtain ⟨hrow,hel,hcap,hc63⟩:=h
 dsimp only at hrow hel hcap hc63 hl hr ⊢
 have key:∃g o,∀k,k<es.length->A=some ⟨g,o,none⟩/\g<w.heap.size:=by
  by_cases h0:0<es.length
  .obtain ⟨b,o,rfl,hb,_⟩:=hrow 0 h0
   exact ⟨b,o,fun k _=>⟨rfl,hb⟩⟩
  .exact ⟨0,0,fun k hk=>by omega⟩
 obtain ⟨g,o,key⟩:=key
 have h1:=flong_o g o A (es.map fun e=>(vlen e.b,vlen e.d)) c w (fun k hk=>key k (by simpa using hk)) (fun k hk=>by
  have hk':k<es.length:=by simpa using hk
  obtain ⟨b,o',e1,hb,c0,c1,c2,c3⟩:=hrow k hk'
  obtain ⟨e2,_⟩:=key k hk'
  rw[e1]at e2
  simp only[Option.some.injEq,Addr.mk.injEq,and_true]at e2
  obtain ⟨rfl,rfl⟩:=e2
  obtain ⟨⟨n,A1,d1,xs,f1,f2,_⟩,⟨m,A2,d2,ys,f3,f4,_⟩⟩:=hel _ (List.getElem_mem hk')
  rw[f1]at c0
  rw[f2]at c1
  rw[f3]at c2
  rw[f4]at c3
  refine ⟨n,A1,d1,m,A2,d2,c0,?_,c2,?_⟩
  .rw[c1];simp[f2,vlen]
  .rw[c3];simp[f4,vlen]) (fun k hk=>by
  have hk':k<es.length:=by simpa using hk
  obtain ⟨⟨n,A1,d1,xs,f1,f2,_,_,g1,g2⟩,⟨m,A2,d2,ys,f3,f4,_,_,g3,g4⟩⟩:=hel _ (List.getElem_mem hk')
  simp only[List.getElem_map,f2,f4,vlen]
  exact ⟨by omega,by omega⟩) (by simpa using hl) (r:=r) (by rw[<-hr,List.any_map];rfl)
 rw[List.length_map]at h1
 exact h1
theorem VIn.vi {w:World}{v:VA}(h:VIn w v)(hl:lngV v.es=false):∃rs,Vi w v.A v.c v.es rs 6/\rs.length<=20:=by
 obtain ⟨A,c,es⟩:=v
 obtain ⟨hrow,hel,hcap,hc63⟩:=h
 dsimp only at hrow hel hcap hc63 hl ⊢
 unfold lngV at hl
 simp only[Bool.or_eq_false_iff,decide_eq_false_iff_not,List.any_eq_false]at hl
 have key:∀e∈es,∃r:Rat,Qi w e.a e.b e.c e.d r 6:=fun e he=>by
  have h1:=hl.2 e he
  obtain ⟨⟨n,A1,d1,xs,f1,f2,r1,g1,l1,m1⟩,⟨m,A2,d2,ys,f3,f4,r2,g2,l2,m2⟩⟩:=hel e he
  unfold lngE at h1
  simp only[f2,f4,vlen,Bool.or_eq_true,decide_eq_true_eq,not_or]at h1
  refine ⟨_,_,_,⟨n,A1,d1,xs,f1,f2,⟨r1,g1,l1,m1,by omega⟩,by omega,rfl⟩,⟨m,A2,d2,ys,f3,f4,⟨r2,g2,l2,m2,by omega⟩,by omega,rfl⟩,rfl,Sm.zof g1 (by omega),Sm.zof g2 (by omega)⟩
 obtain ⟨rs,h1,h2⟩:∃rs:List Rat,es.length=rs.length/\∀i,Qi w (es.getD i E4.z).a (es.getD i E4.z).b (es.getD i E4.z).c (es.getD i E4.z).d (rs.getD i 0) 6:=by
  clear hrow hcap hl hel
  induction es with
  | nil=>exact ⟨[],rfl,fun i=>by simpa [E4.z]using Qi.zero w⟩
  | cons e r ih =>
   obtain ⟨q,hq⟩:=key e (by simp)
   obtain ⟨rs,h1,h2⟩:=ih (fun e he=>key e (by simp[he]))
   refine ⟨q::rs,by simp[h1],fun i=>?_⟩
   cases i with
   | zero=>simpa using hq
   | succ i=>simpa using h2 i
 exact ⟨rs,⟨hrow,h1,h2,fun e he=>(hel e he).fq,hcap,hc63⟩,by rw[<-h1];omega⟩
end Go.Proofs.YtiifpobhmnplaaaGreat

namespace Go.Proofs.YtiifpobhmnplaaaGreat
open Go.ChangeShapes Go.WideShapes Go.ChangeAt Go.RowKit Go.Joins
instance : Inhabited E4:=⟨E4.z⟩
theorem spot_none {W:World}{a:Addr}{v:Value}(h:W.cell? a=some v):a.spot=none:=by
 unfold World.cell? at h
 split at h
 .split at h
  .cases h
  .rename_i hs
   simpa using hs
 .cases h
theorem open_v {H:Type}{enc:TypeId×Value->H}{W:World}{base:Nat}{spare:Nat->Bool}{held:Bool}{r:Reach}{b0:Nat}{v:Value}{d:DataW H}{p:List MemPlace}
  (hs:∀b,spare b=true) (hv:Value.okWide Tryz.prog W r b0 27 v) (h:DataW.Trod enc Tryz.prog W base spare held 27 v d p) :
  ∃A c es,v=.slice A es.length c/\VIn W ⟨A,c,es⟩:=by
 obtain ⟨a,len,cap,rfl⟩:=okWide_slice Tryz.underlying27 hv
 obtain ⟨fuel,hf⟩:=h
 replace hf:DataW.trod enc Tryz.prog W base spare held fuel 27 [.slice a len cap]=some (d,p):=hf
 rcases Go.Deep.open_slice Tryz.underlying27 hf with ⟨e1,_⟩|⟨ad,l,cp,m,n,D,Pl,e1,hb,hl,hm,hmm,_,hx⟩
 .simp only[List.cons.injEq,Value.slice.injEq,and_true]at e1
  obtain ⟨rfl,rfl,rfl⟩:=e1
  exact ⟨none,0,[],rfl,⟨Rq.nil,fun e he=>(by cases he),Nat.le_refl _,by decide⟩⟩
 .simp only[List.cons.injEq,Value.slice.injEq,and_true]at e1
  obtain ⟨rfl,rfl,rfl⟩:=e1
  have hlm:len<=m:=by rw[hmm];split<;>omega
  have each:∀i,i<len->∃E:E4,(W.cell? (ad.add (i*4))=some E.a/\W.cell? (ad.add (i*4+1))=some E.b/\W.cell? (ad.add (i*4+2))=some E.c/\W.cell? (ad.add (i*4+3))=some E.d)/\ZxE W E:=by
   intro i hi
   obtain ⟨cs',h1,h2⟩:=hx i (by omega)
   rw[cellsQ]at h1
   obtain ⟨_,hlen,hcell⟩:=World.cells?_some h1
   match cs',hlen with
   | [c0,c1,c2,c3],_ =>
    have f0:=hcell 0 (by omega)
    have f1:=hcell 1 (by omega)
    have f2:=hcell 2 (by omega)
    have f3:=hcell 3 (by omega)
    rw[Go.Deep.add_add]at f0 f1 f2 f3
    exact ⟨⟨c0,c1,c2,c3⟩,⟨by simpa using f0,by simpa using f1,by simpa using f2,by simpa using f3⟩,trod_q hs h2⟩
  obtain ⟨E,hE⟩:=Go.Deep.choose_lt each
  have hlen:((List.range len).map E).length=len:=by simp
  refine ⟨some ad,cap,(List.range len).map E,by rw[hlen],⟨?_,?_,by show ((List.range len).map E).length<=cap;rw[hlen];exact hl,by have:=hm;unfold maxLen at this;show cap<=_;omega⟩⟩
  .intro k hk
   have hk':k<len:=by rw[<-hlen];exact hk
   obtain ⟨⟨c0,c1,c2,c3⟩,_⟩:=hE k hk'
   have hsp:=spot_none (hE 0 (by omega)).1.1
   obtain ⟨b,o,sp⟩:=ad
   have h0:(⟨b,o,sp⟩:Addr).add (0*4)=⟨b,o,sp⟩:=by simp[Addr.add]
   rw[h0]at hsp
   dsimp only at hsp
   subst hsp
   have hadd:∀j,(⟨b,o,none⟩:Addr).add j=⟨b,o+j,none⟩:=fun j=>by
    unfold Addr.add
    by_cases hj:j=0
    .simp[hj]
    .simp[hj]
   rw[hadd]at c0 c1 c2 c3
   refine ⟨b,o,rfl,World.block_lt_of_cell? W _ c0,?_⟩
   have he:((List.range len).map E)[k]=E k:=by simp
   show W.cell? ⟨b,o+k*4,none⟩=some (((List.range len).map E)[k]).a/\W.cell? ⟨b,o+k*4+1,none⟩=some (((List.range len).map E)[k]).b/\W.cell? ⟨b,o+k*4+2,none⟩=some (((List.range len).map E)[k]).c/\W.cell? ⟨b,o+k*4+3,none⟩=some (((List.range len).map E)[k]).d
   rw[he]
   exact ⟨c0,by rw[<-Nat.add_assoc]at c1;exact c1,by rw[<-Nat.add_assoc]at c2;exact c2,by rw[<-Nat.add_assoc]at c3;exact c3⟩
  .intro e he
   obtain ⟨i,hi,rfl⟩:=List.mem_map.1 he
   exact (hE i (List.mem_range.1 hi)).2
end Go.Proofs.YtiifpobhmnplaaaGreat

namespace Go.Proofs.YtiifpobhmnplaaaGreat
open Go.RowKit Go.Shelf
def scaleQ (t:Rat)(rs:List Rat):List Rat:=ptw (fun r s=>t*r+s) rs []
structure Vm (k:Nat)(rs:List Rat):Prop where
 qm:∀i,Qm k (rs.getD i 0)
 len:rs.length<=20
theorem Vm.l {k:Nat}{rs:List Rat}(h:Vm k rs):rs.length<=4398046511104:=Nat.le_trans h.len (by decide)
theorem Vm.nil : Vm 1 []:=⟨fun i=>⟨Nat.pow_pos (by decide),Sm.one (by decide)⟩,by decide⟩
theorem Vm.add {k l:Nat}{rs ss:List Rat}(h:Vm k rs)(h':Vm l ss):Vm (k+l+1) (ptw (fun r s=>r+s) rs ss) :=
 ⟨fun i=>by rw[ptw_getD (by decide +kernel)];exact (h.qm i).add (h'.qm i),by have:=h.len;have:=h'.len;rw[ptw_length];omega⟩
theorem Vm.sub {k l:Nat}{rs ss:List Rat}(h:Vm k rs)(h':Vm l ss):Vm (k+l+1) (ptw (fun r s=>r-s) rs ss) :=
 ⟨fun i=>by rw[ptw_getD (by decide +kernel)];exact (h.qm i).sub (h'.qm i),by have:=h.len;have:=h'.len;rw[ptw_length];omega⟩
theorem zero_flat (m:Nat):Builtin.zeroCells (.agg #[.bool false,.slice none 0 0,.bool false,.slice none 0 0]:Value).cells m=(flat (List.replicate m E4.z)).toArray:=by
 rw[flat_zero]
 rfl
def TotV (W:World)(v:Value)(n:Nat)(f:Nat->Rat)(B:Nat):Prop :=
 (n=0/\v=.slice none 0 0)∨∃g cap fl,v=.slice (some ⟨g,0,none⟩) n cap/\B<=g/\Row W g fl/\fl.length=cap/\n<=cap/\cap<=9223372036854775807 /\
  (∀i,i<n->Qc W (fl.getD i E4.z).a (fl.getD i E4.z).b (fl.getD i E4.z).c (fl.getD i E4.z).d (f i))/\∀i,n<=i->fl.getD i E4.z=E4.z
theorem TotV.to {W V:World}{v:Value}{n:Nat}{f:Nat->Rat}{B:Nat}(h:TotV W v n f B)(hb:Below W.heap.size W V):TotV V v n f B:=by
 rcases h with h|⟨g,cap,fl,h1,h2,h3,h4,h5,h6,h7,h8⟩
 .exact .inl h
 .exact .inr ⟨g,cap,fl,h1,h2,h3.to hb,h4,h5,h6,fun i hi=>(h7 i hi).to hb,h8⟩
theorem TotV.congr {W:World}{v:Value}{n:Nat}{f f':Nat->Rat}{B:Nat}(h:TotV W v n f B)(hf:∀i,i<n->f i=f' i):TotV W v n f' B:=by
 rcases h with h|⟨g,cap,fl,h1,h2,h3,h4,h5,h6,h7,h8⟩
 .exact .inl h
 .exact .inr ⟨g,cap,fl,h1,h2,h3,h4,h5,h6,fun i hi=>by rw[<-hf i hi];exact h7 i hi,h8⟩
theorem qc_z (W:World):Qc W E4.z.a E4.z.b E4.z.c E4.z.d 0:=⟨Zc.zero _,Zc.zero _⟩
theorem rep_split {fl:List E4}{n m:Nat}(h:∀i,n<=i->fl.getD i E4.z=E4.z)(hl:n+m<=fl.length):fl.take n++List.replicate m E4.z++fl.drop (n+m)=fl:=by
 refine List.ext_getElem ?_ fun i h1 h2=>?_
 .simp;omega
 .by_cases hi:i<n
  .rw[List.getElem_append_left (by simp;omega),List.getElem_append_left (by simp;omega)]
   simp
  .by_cases hi2:i<n+m
   .rw[List.getElem_append_left (by simp;omega),List.getElem_append_right (by simp;omega)]
    have:=h i (by omega)
    rw[getD_lt h2]at this
    rw[this]
    simp
   .rw[List.getElem_append_right (by simp;omega)]
    simp only[List.getElem_drop]
    congr 1
    simp
    omega
theorem zapp {W:World}{v:Value}{n m:Nat}{f:Nat->Rat}{B:Nat}(h:TotV W v n f B)(hf:∀i,n<=i->f i=0)(hB:B<=W.heap.size)(hm:0<m)(hl:n+m<=1000000)(ty:TypeId) :
  ∃v' W',(Builtin.append_ #[27,3] ty #[v,.int .i64 (m:Int)]).run Tryz.prog W=.ok v' W'/\TotV W' v' (n+m) f B/\Below W.heap.size W W':=by
 obtain ⟨i0,hi,hz0,hz1,hz2⟩:=info_parts infoQ
 have hm0:m≠0:=by omega
 have hwrap:IntKind.i64.wrap (m:Int)=(m:Int):=by rw[IntKind.wrap_i64];omega
 have hneg:¬((m:Int)<0):=by omega
 have h48:¬(281474976710656<(m:Int)*64):=by omega
 have hz4:¬(m*4=0):=by omega
 rcases h with ⟨rfl,rfl⟩|⟨g,cap,fl,rfl,hg,hr,rfl,hn,hc,hq,hz⟩
 .have h1:¬(281474976710656<Builtin.nextslicecap m 0*64):=by rw[nextslicecap_zero hm];omega
  have h63:¬(9223372036854775807<(m:Int)):=by omega
  have hge:=grownCap_ge W m 0 26
  have hle:=grownCap_le_maxLen W m 0 26 (by unfold maxLen;omega)
  have hrun:(Builtin.append_ #[27,3] ty #[.slice none 0 0,.int .i64 (m:Int)]).run Tryz.prog W=.ok (.slice (some ⟨W.heap.size,0,none⟩) m (grownCap W m 0 26)) (W.drew.alloc (.cells (flat (List.replicate (grownCap W m 0 26) E4.z)).toArray 26)):=by
   have e:(flat (List.replicate (grownCap W m 0 26) E4.z)).toArray=(flat (List.replicate m E4.z)).toArray++(flat (List.replicate (grownCap W m 0 26-m) E4.z)).toArray:=by
    rw[<-zero_flat]
    apply Array.ext'
    simp only[Array.toList_append,List.toList_toArray,<-flat_app]
    rw[zero_flat]
    simp only[List.toList_toArray,List.replicate_append_replicate]
    congr 2
    omega
   rw[e]
   simp[Builtin.append_,run_underlying Tryz.underlying27,run_underlying Tryz.underlying3,asInt,asIntOf,hwrap,hneg,sizeOf,typeInfo,zeroValue,hi,hz0,hz1,hz2,h48,hz4,hm0,h63,h1,Question.forced,run_firstCells_none,newRow,grownCap,zero_flat]
  refine ⟨_,_,hrun,.inr ⟨W.heap.size,_,List.replicate (grownCap W m 0 26) E4.z,by rw[Nat.zero_add],hB,Row.new W.drew _,by simp,by omega,by unfold maxLen at hle;omega,fun i hi'=>?_,fun i hi'=>?_⟩,((Below.refl _ W).drew).alloc (Nat.le_refl _) _⟩
  .rw[hf i (Nat.zero_le _),show (List.replicate (grownCap W m 0 26) E4.z).getD i E4.z=E4.z from by by_cases h:i<grownCap W m 0 26<;>simp[List.getD,List.getElem?_replicate,h]]
   exact qc_z _
  .by_cases h:i<grownCap W m 0 26<;>simp[List.getD,List.getElem?_replicate,h]
 .by_cases hroom:n+m<=fl.length
  .have hst:=run_storeCells_at Tryz.prog g (n*4) 26 (flat (List.replicate m E4.z)) 0 _ W hr.heap (by simp[flat_length];omega) (by
    intro u hu
    have:∀es:List E4,(∀e∈es,e.fq)->∀u∈flat es,u.oneCell'=true:=by
     intro es
     induction es with
     | nil=>intro _ u hu;cases hu
     | cons e r ih =>
      intro he u hu
      simp only[flat,List.mem_cons]at hu
      have h4:=fq_cells (he e (by simp))
      rcases hu with rfl|rfl|rfl|rfl|hu
      .exact h4 _ (by simp)
      .exact h4 _ (by simp)
      .exact h4 _ (by simp)
      .exact h4 _ (by simp)
      .exact ih (fun e he'=>he e (by simp[he'])) u hu
    exact this _ (fun e he=>by rw[List.eq_of_mem_replicate he];exact E4.z_fq) u hu)
   have hsame:(flat fl).take (n*4)++flat (List.replicate m E4.z)++(flat fl).drop (n*4+(flat (List.replicate m E4.z)).length)=flat fl:=by
    rw[flat_length,List.length_replicate,show n*4+m*4=(n+m)*4 from by omega,flat_take,flat_drop,<-flat_app,<-flat_app,rep_split hz hroom]
   simp only[List.toList_toArray,Nat.add_zero]at hst
   rw[hsame,setRow_self W g _ _ _ hr.heap]at hst
   have hrun:(Builtin.append_ #[27,3] ty #[.slice (some ⟨g,0,none⟩) n fl.length,.int .i64 (m:Int)]).run Tryz.prog W=.ok (.slice (some ⟨g,0,none⟩) (n+m) fl.length) W:=by
    simp[Builtin.append_,run_underlying Tryz.underlying27,run_underlying Tryz.underlying3,asInt,asIntOf,hwrap,hneg,sizeOf,typeInfo,zeroValue,hi,hz0,hz1,hz2,h48,hz4,hm0,hroom,zero_flat,Addr.add_lit,hst]
   refine ⟨_,_,hrun,.inr ⟨g,fl.length,fl,rfl,hg,hr,rfl,hroom,hc,fun i hi'=>?_,fun i hi'=>hz i (by omega)⟩,Below.refl _ _⟩
   by_cases hin:i<n
   .exact hq i hin
   .rw[hz i (by omega),hf i (by omega)]
    exact qc_z _
  .have h1:¬(281474976710656<Builtin.nextslicecap (n+m) fl.length*64):=by
    have:=growslice_fits (need:=n+m) (old:=fl.length) (bytes:=64) (by omega) (by omega)
    omega
   have h63:¬(9223372036854775807<((n:Int)+(m:Int))):=by omega
   have hge:=grownCap_ge W (n+m) fl.length 26
   have hle:=grownCap_le_maxLen W (n+m) fl.length 26 (by unfold maxLen;omega)
   obtain ⟨C,hC⟩:∃C,grownCap W (n+m) fl.length 26=C:=⟨_,rfl⟩
   have hd:W.drew.heap[g]?=some (.cells (flat fl).toArray 26 ):=hr.heap
   have hfo:=run_firstCells_some (P:=Tryz.prog) W.drew 4 n ⟨g,0,none⟩ n fl.length (flat (fl.take n)) (by rw[flat_length,List.length_take];omega) (by
    intro j u hj
    have e1:W.drew.cell? ((⟨g,0,none⟩:Addr).add j)=(flat fl)[j]?:=by
     unfold Addr.add
     by_cases hj0:j=0
     .simp[hj0,World.cell?,hd]
     .simp[hj0,World.cell?,hd]
    rw[e1]
    rw[<-flat_take,List.getElem?_take]at hj
    split at hj
    .exact hj
    .cases hj)
   have hrun:(Builtin.append_ #[27,3] ty #[.slice (some ⟨g,0,none⟩) n fl.length,.int .i64 (m:Int)]).run Tryz.prog W=.ok (.slice (some ⟨W.heap.size,0,none⟩) (n+m) C) (W.drew.alloc (.cells (flat (fl.take n++List.replicate (C-n) E4.z)).toArray 26)):=by
    have e:(flat (fl.take n++List.replicate (C-n) E4.z)).toArray=(flat (fl.take n)).toArray++((flat (List.replicate m E4.z)).toArray++(flat (List.replicate (C-(n+m)) E4.z)).toArray):=by
     apply Array.ext'
     simp only[Array.toList_append,List.toList_toArray,<-flat_app,List.replicate_append_replicate]
     congr 3
     omega
    rw[e]
    simp[Builtin.append_,run_underlying Tryz.underlying27,run_underlying Tryz.underlying3,asInt,asIntOf,hwrap,hneg,sizeOf,typeInfo,zeroValue,hi,hz0,hz1,hz2,h48,hz4,hm0,hroom,h63,h1,Question.forced,hfo,newRow,zero_flat]
    rw[<-hC]
    simp[grownCap,Array.append_assoc]
   rw[hC]at hge hle
   have hrow:Row (W.drew.alloc (.cells (flat (fl.take n++List.replicate (C-n) E4.z)).toArray 26)) W.heap.size (fl.take n++List.replicate (C-n) E4.z):=⟨World.alloc_heap_new W.drew _,fun e he=>by
    rcases List.mem_append.1 he with he|he
    .exact hr.fq e (List.mem_of_mem_take he)
    .rw[List.eq_of_mem_replicate he];exact E4.z_fq⟩
   have hbb:Below W.heap.size W (W.drew.alloc (.cells (flat (fl.take n++List.replicate (C-n) E4.z)).toArray 26)):=((Below.refl _ W).drew).alloc (Nat.le_refl _) _
   have hlo:∀i,i<n->(fl.take n++List.replicate (C-n) E4.z).getD i E4.z=fl.getD i E4.z:=fun i hi'=>by
    simp only[List.getD,List.getElem?_append,List.length_take,show i<min n fl.length by omega,if_true,List.getElem?_take,hi']
   have hhi:∀i,n<=i->(fl.take n++List.replicate (C-n) E4.z).getD i E4.z=E4.z:=fun i hi'=>by
    have h1:¬i<min n fl.length:=by omega
    simp only[List.getD,List.getElem?_append,List.length_take,h1,if_false,List.getElem?_replicate]
    split<;>rfl
   refine ⟨_,_,hrun,.inr ⟨W.heap.size,C,_,rfl,hB,hrow,by simp;omega,by omega,by unfold maxLen at hle;omega,fun i hi'=>?_,fun i hi'=>hhi i (by omega)⟩,hbb⟩
   by_cases hin:i<n
   .rw[hlo i hin];exact (hq i hin).to hbb
   .rw[hhi i (by omega),hf i (by omega)]
    exact qc_z _
theorem wpList_append_zrun {P:Program}{ops:Array Oper}{Q:Exit->Act->World->Prop}{rest:List Oper}{o:Oper}{a:Act}{w w':World}{v y v':Value}
  (hgd:o.guard=none) (s x:Operand) (t u:TypeId) (ho:o.op=.call { callee:=.builtin .append,args:=#[s,x],argTypes:=#[t,u] })
  (hs:a.eval s=v) (hx:a.eval x=y) (hrun:(Builtin.append_ #[t,u] o.type #[v,y]).run P w=.ok v' w') (h:wpList P ops Q rest (a.put o.dst v') w'):wpList P ops Q (o::rest) a w:=by
 refine wpList_plain hgd fun K hK=>?_
 unfold Oper.wp execOp
 simp only[ho,resolve,invoke,builtin,Sem.run_bind,Sem.run_pure,Result.andThen_ok,List.map_toArray,List.map_cons,List.map_nil,hs,hx,hrun]
 exact hK _ _ h
theorem Vi.qm {W:World}{A:Option Addr}{c:Nat}{es:List E4}{rs:List Rat}{k:Nat}(h:Vi W A c es rs k)(hk:0<k)(i:Nat):Qm k (rs.getD i 0):=(h.el i).qm hk
theorem vscale_v {w:World}{k1 k2 k3 k4:Value}{t:Rat}{m:Nat}{A:Option Addr}{c:Nat}{es:List E4}{rs:List Rat}{k:Nat}(hT:Qi w k1 k2 k3 k4 t m)(hA:Vi w A c es rs k)(hm:0<m)(hk:0<k)(hmk:m+k+2<=10000)(h1:rs.length<=4398046511104) :
  Calls Tryz.prog 20 #[.agg #[k1,k2,k3,k4],.slice A rs.length c] w (VR w (scaleQ t rs)):=by
 obtain ⟨W0,hW0⟩:∃W0,W0=w.alloc (.cells #[k1,k2,k3,k4] 26):=⟨_,rfl⟩
 have hbw:Below w.heap.size w W0:=by rw[hW0];exact (Below.refl _ _).alloc (Nat.le_refl _) _
 have HC:=Hd (vscaled_v (c':=0) (A':=none) (hT.to hbw) (hA.to hbw) (Vi.nil W0 (k:=1) (by decide)) hm hk (by decide) (by omega) h1 (by decide))
 have HW0:=Hd hW0
 have HB:=Hd hbw
 clear hA hT hW0 hbw
 go_enter Tryz.func20,Tryz.ntmps20
 go_wp2_with fail
 rw[<-HW0.out]
 refine HC.out.mono ?_
 rintro e V ⟨A1,c1,fl,rfl,hv,bb⟩
 go_wp2
 go_ret
 exact ⟨_,_,_,rfl,hv,HB.out.trans (bb.mono HB.out.size)⟩
def sumV (rs:Nat->List Rat):Nat->List Rat
 | 0=>[]
 | k+1=>ptw (fun r s=>r+s) (sumV rs k) (rs k)
theorem sumV_succ (rs:Nat->List Rat)(k:Nat):sumV rs (k+1)=ptw (fun r s=>r+s) (sumV rs k) (rs k):=rfl
theorem sumV_getD (rs:Nat->List Rat)(i:Nat):∀k,(sumV rs k).getD i 0=sumF (fun j=>(rs j).getD i 0) k
 | 0=>rfl
 | k+1=>by
  rw[sumV_succ,ptw_getD (by decide +kernel),sumV_getD rs i k]
  rfl
theorem sumV_qm {rs:Nat->List Rat}{m:Nat}(h:∀k i,Qm m ((rs k).getD i 0))(k i:Nat):Qm (k*(m+1)+1) ((sumV rs k).getD i 0):=by
 rw[sumV_getD]
 exact Qm.sumF (fun j=>h j i) k
theorem sumV_len {rs:Nat->List Rat}{M:Nat}(h:∀k,(rs k).length<=M):∀k,(sumV rs k).length<=M
 | 0=>Nat.zero_le _
 | k+1=>by
  rw[sumV_succ,ptw_length]
  have:=sumV_len h k
  have:=h k
  omega
structure SumIn (W:World)(P:Option Addr)(N:Nat)(As:Nat->Option Addr)(cs:Nat->Nat)(es:Nat->List E4)(rs:Nat->List Rat)(m:Nat):Prop where
 cell:∀k,k<N->∃b o,P=some ⟨b,o,none⟩/\W.cell? ⟨b,o+k,none⟩=some (.slice (As k) (rs k).length (cs k))
 vec:∀k,k<N->Vi W (As k) (cs k) (es k) (rs k) m
def midF (S a:Nat->Rat)(j:Nat)(i:Nat):Rat:=if i<j then S i+a i else S i
theorem TotV.sl {W:World}{v:Value}{n:Nat}{f:Nat->Rat}{B:Nat}(h:TotV W v n f B):∃A c,v=.slice A n c:=by
 rcases h with ⟨rfl,rfl⟩|⟨g,cap,fl,rfl,_⟩
 .exact ⟨_,_,rfl⟩
 .exact ⟨_,_,rfl⟩
theorem TotV.row {W:World}{A:Option Addr}{n c:Nat}{f:Nat->Rat}{B:Nat}(h:TotV W (.slice A n c) n f B)(hn:n≠0):∃g fl,A=some ⟨g,0,none⟩/\B<=g/\Row W g fl/\fl.length=c/\n<=c/\c<=9223372036854775807 /\
  (∀i,i<n->Qc W (fl.getD i E4.z).a (fl.getD i E4.z).b (fl.getD i E4.z).c (fl.getD i E4.z).d (f i))/\∀i,n<=i->fl.getD i E4.z=E4.z:=by
 rcases h with ⟨h0,_⟩|⟨g,cap,fl,h1,h2⟩
 .exact absurd h0 hn
 .cases h1
  exact ⟨g,fl,rfl,h2⟩
theorem TotV.set {W:World}{n j:Nat}{S a:Nat->Rat}{B g c:Nat}{fl:List E4}(hg:B<=g)(h1:Row W g fl)(h2:fl.length=c)(hn:n<=c)(hc:c<=9223372036854775807)
  (h3:∀i,i<n->Qc W (fl.getD i E4.z).a (fl.getD i E4.z).b (fl.getD i E4.z).c (fl.getD i E4.z).d (midF S a j i)) (h4:∀i,n<=i->fl.getD i E4.z=E4.z) (hj:j<n) {e:E4} (he:e.fq) (hq:Qc W e.a e.b e.c e.d (S j+a j)) :
  TotV (W.setRow g (flat (fl.set j e)).toArray) (.slice (some ⟨g,0,none⟩) n c) n (midF S a (j+1)) B:=by
 have kw:Kw W (W.setRow g (flat (fl.set j e)).toArray):=h1.kw
 refine .inr ⟨g,c,fl.set j e,rfl,hg,h1.app he,by simpa using h2,hn,hc,fun i hi=>?_,fun i hi=>?_⟩
 .by_cases hij:i=j
  .subst hij
   rw[show (fl.set i e).getD i E4.z=e from by simp[List.getD,show i<fl.length by omega],show midF S a (i+1) i=S i+a i from by unfold midF;rw[if_pos (by omega)]]
   exact kw.qc hq
  .rw[show (fl.set j e).getD i E4.z=fl.getD i E4.z from by simp[List.getD,List.getElem?_set,Ne.symm hij],show midF S a (j+1) i=midF S a j i from by unfold midF;have e:(i<j+1)=(i<j):=propext (by omega);simp only[e]]
   exact kw.qc (h3 i hi)
 .rw[show (fl.set j e).getD i E4.z=fl.getD i E4.z from by simp[List.getD,List.getElem?_set,show j≠i by omega]]
  exact h4 i hi
theorem TotV.vr {w W:World}{A:Option Addr}{c:Nat}{rs:List Rat}(h:TotV W (.slice A rs.length c) rs.length (fun i=>rs.getD i 0) w.heap.size)(hl:rs.length<=4398046511104)(hb:Below w.heap.size w W):VR w rs (.returned (.slice A rs.length c)) W:=by
 by_cases h0:rs.length=0
 .obtain rfl:rs=[]:=List.length_eq_zero_iff.1 h0
  rcases h with ⟨_,h⟩|⟨g,cap,fl,h1,h2,h3,h4,h5,h6,h7,h8⟩
  .cases h
   exact ⟨none,0,[],rfl,Vc.nil W (by decide),hb⟩
  .cases h1
   exact ⟨_,c,[],rfl,Vc.nil W h6,hb⟩
 .obtain ⟨g,fl,rfl,h2,h3,h4,h5,h6,h7,h8⟩:=h.row h0
  refine ⟨_,c,fl.take rs.length,rfl,⟨h3.rq _,by rw[List.length_take];omega,fun i=>?_,fun e he=>h3.fq e (List.mem_of_mem_take he),by rw[List.length_take];omega,h6⟩,hb⟩
  by_cases hi:i<rs.length
  .rw[show (fl.take rs.length).getD i E4.z=fl.getD i E4.z from by simp[List.getD,List.getElem?_take,hi]]
   exact h7 i hi
  .rw[getD_ge (l:=rs) (by omega),getD_ge (l:=fl.take rs.length) (by rw[List.length_take];omega)]
   exact ⟨Zc.zero _,Zc.zero _⟩
theorem vsum_any {w:World}{P:Option Addr}{N C m:Nat}{As:Nat->Option Addr}{cs:Nat->Nat}{es:Nat->List E4}{rs:Nat->List Rat}(h:SumIn w P N As cs es rs m)(hm0:0<m)(hq:∀k i,Qm m ((rs k).getD i 0))(hl:∀k,(rs k).length<=1000000)
  (hN:N*(m+1)+1+m+1<=10000):Calls Tryz.prog 39 #[.slice P N C] w (VR w (sumV rs N)):=by
 have hN1:N<=10000:=by
  have:=Nat.le_mul_of_pos_right N (show 0<m+1 by omega)
  omega
 have HI:=Hd h
 have HQ:=Hd hq
 have HL:=Hd hl
 have HNM:Hid (0<m/\N*(m+1)+1+m+1<=10000):=⟨hm0,hN⟩
 have HN1:=Hd hN1
 clear h hm0 hq hl hN
 go_enter Tryz.func39,Tryz.ntmps39
 go_wp2
 go_loopw [3,11] (fun v i wr=>∃(k n c:Nat) (A:Option Addr),v=.slice A n c/\i=.int .i64 k/\k<=N/\Hid ((sumV rs k).length=n)/\Hid (TotV wr (.slice A n c) n (fun i=>(sumV rs k).getD i 0) w.heap.size)/\Below w.heap.size w wr) (fun _ i _=>N-(intOf i).toNat)
 case atStart=>exact ⟨0,0,0,none,rfl,rfl,Nat.zero_le _,rfl,.inl ⟨rfl,rfl⟩,Below.refl _ _⟩
 case round =>
  obtain ⟨k,n,c,A,rfl,rfl,hk,hn,hT,hb⟩:=hrel
  by_cases hlt:k<N
  .have hki:(0:Int)<=(k:Int):=by omega
   have hki':(k:Int)<(N:Int):=by omega
   obtain ⟨b,o,rfl,hc0⟩:=HI.out.cell k hlt
   have hcell:=(hb.cell (p:=⟨b,o+k,none⟩) (World.block_lt_of_cell? w _ hc0)).trans hc0
   have hv:=HI.out.vec k hlt
   have hls:=HL.out k
   have hln:=sumV_len HL.out k
   rw[hn.out]at hln
   obtain ⟨S,hS⟩:∃S:Nat->Rat,S=fun i=>(sumV rs k).getD i 0:=⟨_,rfl⟩
   obtain ⟨a,ha⟩:∃a:Nat->Rat,a=fun i=>(rs k).getD i 0:=⟨_,rfl⟩
   have hNE:Hid (∀i,(sumV rs (k+1)).getD i 0=S i+a i):=fun i=>by rw[hS,ha,sumV_succ,ptw_getD (by decide +kernel)]
   have hT2:Hid (TotV wr (.slice A n c) n S w.heap.size):=by rw[hS];exact hT.out
   have hSz:Hid (∀i,n<=i->S i=0):=fun i hi=>by rw[hS];exact getD_ge (by rw[hn.out];exact hi)
   have hAz:Hid (∀i,(rs k).length<=i->a i=0):=fun i hi=>by rw[ha];exact getD_ge hi
   have hkm:k*(m+1)<=N*(m+1):=Nat.mul_le_mul_right _ hk
   have hADD:Hid (∀(i:Nat) (V:World) (x1 x2 x3 x4 y1 y2 y3 y4:Value),Qc V x1 x2 x3 x4 (S i)->Qi V y1 y2 y3 y4 (a i) m->Calls Tryz.prog 43 #[.agg #[x1,x2,x3,x4],.agg #[y1,y2,y3,y4]] V (QR V (S i+a i))):=fun i V x1 x2 x3 x4 y1 y2 y3 y4 h h'=>by
    have hm1:=HNM.out
    have q1:=sumV_qm HQ.out k i
    rw[hS]at h ⊢
    exact add_q (h.qi q1 (by omega)) h' (by omega) hm1.1 (by omega)
   have hlen1:Hid ((sumV rs (k+1)).length=max n (rs k).length):=by
    show _=_
    rw[<-hn.out,sumV_succ,ptw_length]
   have hVE:Hid (∀i,i<(rs k).length->∃b o,As k=some ⟨b,o,none⟩/\b<w.heap.size/\∃n1 A1 j1 c1 n2 A2 j2 c2,w.cell? ⟨b,o+i*4,none⟩=some (.bool n1)/\w.cell? ⟨b,o+i*4+1,none⟩=some (.slice A1 j1 c1)/\w.cell? ⟨b,o+i*4+2,none⟩=some (.bool n2)/\w.cell? ⟨b,o+i*4+3,none⟩=some (.slice A2 j2 c2) /\
     Qi w (.bool n1) (.slice A1 j1 c1) (.bool n2) (.slice A2 j2 c2) (a i) m):=fun i hi=>by
    have hi':i<(es k).length:=by rw[hv.len];exact hi
    obtain ⟨b,o,e1,hB,g0,g1,g2,g3⟩:=hv.row i hi'
    have he:=hv.el i
    rw[getD_at' hi']at he
    have hf:=hv.fq _ (List.getElem_mem hi')
    rw[ha]
    generalize (es k)[i]=E at *
    obtain ⟨x1,x2,x3,x4⟩:=E
    obtain ⟨⟨n1,A1,j1,m1,e5,e6⟩,⟨n2,A2,j2,m2,e7,e8⟩⟩:=hf
    dsimp only at e5 e6 e7 e8
    subst e5 e6 e7 e8
    exact ⟨b,o,e1,hB,n1,A1,j1,m1,n2,A2,j2,m2,g0,g1,g2,g3,he⟩
   have HB:=Hd hb
   obtain ⟨L,hL⟩:∃L,(rs k).length=L:=⟨_,rfl⟩
   rw[hL]at hls hAz hlen1 hVE hcell
   have HK:=Hd hlt
   clear hb hv hc0 hT hk hlt hS ha hn hL hkm
   generalize As k=Ak at hcell hVE
   generalize cs k=ck at hcell
   by_cases hbig:n<L
   .obtain ⟨mm,hmm⟩:∃mm,L-n=mm:=⟨_,rfl⟩
    have S1:IntKind.i64.wrap ((L:Int)-(n:Int))=(mm:Int):=by rw[IntKind.wrap_i64];omega
    have S2:(0:Int)<(mm:Int):=by omega
    obtain ⟨v',W',hrun,hTot,hbb⟩:=zapp (m:=mm) hT2.out hSz.out HB.out.size (by omega) (by omega) 27
    rw[show n+mm=L from by omega]at hTot
    obtain ⟨A2,c2,rfl⟩:=hTot.sl
    have HRUN:=Hd hrun
    have HMAX:Hid (max n L=L/\L<=L):=by show _/\_;omega
    have HLS:=Hd hls
    have HTOT:=Hd hTot
    have HBB:=Hd hbb
    have HB':=Hxb HB hbb
    clear hrun hTot hbb hmm hbig hls hln hT2
    go_wp2_with (at_builtin;refine wpList_append_zrun rfl (.tmp 22) (.tmp 23) 27 3 rfl (by rfl) (by rfl) HRUN.out ?_;clear HRUN)
    go_loopw [27] (fun jv wi=>∃j:Nat,jv=.int .i64 j/\j<=L/\Hid (TotV wi (.slice A2 L c2) L (midF S a j) w.heap.size)/\Below w.heap.size w wi) (fun jv _=>L-(intOf jv).toNat)
    case atStart =>
     exact ⟨0,rfl,Nat.zero_le _,HTOT.out.congr (fun i _=>by unfold midF;rw[if_neg (Nat.not_lt_zero _)]),HB'.out⟩
    case round =>
     obtain ⟨j,rfl,hj,hTj,hbj⟩:=hrel
     by_cases hjL:j<L
     .have hjn:j<L:=Nat.lt_of_lt_of_le hjL HMAX.out.2
      obtain ⟨g,fl,hAg,hg,hrow,hfl,hnc,hc63,hqs,hzs⟩:=hTj.out.row (by omega)
      subst hAg
      obtain ⟨b',o',hAk,hBk,n1,A1,j1,c1,n2,A3,j2,c3,g0,g1,g2,g3,hqi⟩:=hVE.out j hjL
      subst hAk
      have f0:=(hbj.cell (p:=⟨b',o'+j*4,none⟩) hBk).trans g0
      have f1:=(hbj.cell (p:=⟨b',o'+j*4+1,none⟩) hBk).trans g1
      have f2:=(hbj.cell (p:=⟨b',o'+j*4+2,none⟩) hBk).trans g2
      have f3:=(hbj.cell (p:=⟨b',o'+j*4+3,none⟩) hBk).trans g3
      have hX:=hqi.to hbj
      have hji:(0:Int)<=(j:Int):=by omega
      have hji':(j:Int)<(L:Int):=by omega
      have hjni:(j:Int)<(L:Int):=by omega
      have hjf:j<fl.length:=by omega
      have hqj:=hqs j hjn
      rw[show midF S a j j=S j from by unfold midF;rw[if_neg (Nat.lt_irrefl _)]]at hqj
      have hbw1:Below wr.heap.size wr (wr.alloc (.cells #[.bool n1,.slice A1 j1 c1,.bool n2,.slice A3 j2 c3] 26)):=(Below.refl _ _).alloc (Nat.le_refl _) _
      have tX:=Four.new wr (.bool n1) (.slice A1 j1 c1) (.bool n2) (.slice A3 j2 c3) 26
      replace hX:=hX.to hbw1
      replace hrow:=hrow.to hbw1
      replace hqj:=hqj.to hbw1
      have hqs1:Hid (∀i,i<L->Qc (wr.alloc (.cells #[.bool n1,.slice A1 j1 c1,.bool n2,.slice A3 j2 c3] 26)) (fl.getD i E4.z).a (fl.getD i E4.z).b (fl.getD i E4.z).c (fl.getD i E4.z).d (midF S a j i)):=fun i hi=>(hqs i hi).to hbw1
      have hbW:=Bxb hbj hbw1
      have hcs:=hrow.cells hjf
      rw[getD_at' hjf]at hqj
      obtain ⟨E,hE⟩:∃E,fl[j]=E:=⟨_,rfl⟩
      rw[hE]at hcs hqj
      obtain ⟨e1,e2,e3,e4⟩:=E
      have HG:=Hd hg
      have HFL:=Hd hfl
      have HNC:=Hd hnc
      have HC63:=Hd hc63
      have HZ:=Hd hzs
      have HX:=Hd hX
      have HROW:=Hd hrow
      have HQJ:=Hd hqj
      have HBW:=Hd hbW
      have HCS:=Hd hcs
      have HJF:=Hd hjf
      have TX:=Hd tX
      have HJN:=Hd hjn
      have HJL:=Hd hjL
      have HE:Hid (∀V:World,Row V g fl->V.cell? ⟨g,j*4,none⟩=some e1/\V.cell? ⟨g,j*4+1,none⟩=some e2/\V.cell? ⟨g,j*4+2,none⟩=some e3/\V.cell? ⟨g,j*4+3,none⟩=some e4):=fun V h=>by
       have h1:=h.cells hjf
       rw[hE]at h1
       exact h1
      clear hg hfl hnc hc63 hzs hX hrow hqj hbW hcs hjf tX hqs hbw1 hE hqi g0 g1 g2 g3 hjn hjL hj hbj hTj
      go_wp2_with fail
      obtain ⟨W2,hW2⟩:∃W2,W2=(wr.alloc (.cells #[.bool n1,.slice A1 j1 c1,.bool n2,.slice A3 j2 c3] 26)).drew:=⟨_,rfl⟩
      have hbd:Below (wr.alloc (.cells #[.bool n1,.slice A1 j1 c1,.bool n2,.slice A3 j2 c3] 26)).heap.size (wr.alloc (.cells #[.bool n1,.slice A1 j1 c1,.bool n2,.slice A3 j2 c3] 26)) W2:=by rw[hW2];exact (Below.refl _ _).drew
      refine wp_region_planTo (S:=fun _=>True) [(0,true),(1,true),(2,true),(3,true),(4,true)] #[true,true,true,true,true,false,false,false,false,false] 5 (by kernel_rfl) (by kernel_rfl) trivial ?_
      iterate 5 (refine plan_take (v:=?_) rfl (by rfl) ?_ ?_;rotate_left;(focus (intro w' _;go_simp;try with_reducible rfl)))
      intro _
      rw[<-hW2]
      replace hqs1:Hid (∀i,i<L->Qc W2 (fl.getD i E4.z).a (fl.getD i E4.z).b (fl.getD i E4.z).c (fl.getD i E4.z).d (midF S a j i)):=fun i hi=>(hqs1.out i hi).to hbd
      replace HX:=Hd (HX.out.to hbd)
      replace HROW:=Hd (HROW.out.to hbd)
      replace HQJ:=Hd (HQJ.out.to hbd)
      replace HBW:=Hxb HBW hbd
      replace TX:=Hd (TX.out.to hbd)
      replace HCS:=Hd (HE.out W2 HROW.out)
      clear hW2 hbd f0 f1 f2 f3
      obtain ⟨mk,hmk⟩:∃mk:Value->Value->Value->Value->Act,mk=fun x1 x2 x3 x4=>⟨#[.slice (some ⟨b,o,none⟩) N C,undef,.slice none 0 0,.slice (some ⟨g,0,none⟩) L c2,undef,.slice (some ⟨b',o',none⟩) L ck,.int .i64 mm,.int .i64 j,.pointer (some ⟨wr.heap.size,0,none⟩),.slice (some ⟨b,o,none⟩) N C,.int .i64 N,.int .i64 k,.bool true,.pointer (some ⟨b,o+k,none⟩),.slice (some ⟨b',o',none⟩) L ck,.slice (some ⟨b',o',none⟩) L ck,.int .i64 L,.slice A n c,.int .i64 n,.int .i64 mm,.int .i64 mm,.bool true,.slice A n c,.int .i64 mm,.slice (some ⟨g,0,none⟩) L c2,.slice (some ⟨b',o',none⟩) L ck,.int .i64 L,.int .i64 j,.bool true,.int .i64 j,.pointer (some ⟨b',o'+j*4,none⟩),.agg #[.bool n1,.slice A1 j1 c1,.bool n2,.slice A3 j2 c3],.slice (some ⟨g,0,none⟩) L c2,.int .i64 j,.slice (some ⟨g,0,none⟩) L c2,.int .i64 j,.pointer (some ⟨g,j*4,none⟩),x1,x2,x3,x4,u41,u42,undef],[]⟩:=⟨_,rfl⟩
      refine dag (fun G up dn=>?_)
      have D5678:∀(V:World) (s1 s2 s3 s4:Value) (bb:Below W2.heap.size W2 V) (hQ:Qc V s1 s2 s3 s4 (S j+a j)),G 1 #[true,true,true,true,true,true,true,true,true,false] (mk (.agg #[e1,e2,e3,e4]) (.agg #[.bool n1,.slice A1 j1 c1,.bool n2,.slice A3 j2 c3]) (.agg #[s1,s2,s3,s4]) (.pointer (some ⟨g,j*4,none⟩))) V:=by
       intro V s1 s2 s3 s4 bb hQ
       refine up ?_
       simp only[hmk]
       refine rdy1 (i:=9) (by kernel_rfl) rfl (by rfl) (fun K hK=>?_)
       have hr:=HROW.out.to bb
       refine op_storeq (k:=j) (e:=⟨s1,s2,s3,s4⟩) (by rfl) (by rfl) hr HJF.out hQ.fq ?_
       refine hK.out _ _ trivial ?_
       clear hK K
       have FIN:Hid (TotV (V.setRow g (flat (fl.set j ⟨s1,s2,s3,s4⟩)).toArray) (.slice (some ⟨g,0,none⟩) L c2) L (midF S a (j+1)) w.heap.size/\Below w.heap.size w (V.setRow g (flat (fl.set j ⟨s1,s2,s3,s4⟩)).toArray)) :=
        ⟨TotV.set HG.out hr HFL.out HNC.out HC63.out (fun i hi=>(hqs1.out i hi).to bb) HZ.out HJN.out hQ.fq hQ,below_setRow (HBW.out.trans (bb.mono HBW.out.size)) HG.out _⟩
       clear hr hQ bb hmk
       refine wpAnyH_done (by kernel_rfl) ?_ _
       show NoPanic _ _ _ _
       clear HQJ HX hqs1 hADD hVE TX HCS HROW
       have hj0:(0:Int)<=(j:Int):=by omega
       have hj1:(j:Int)+1<=9223372036854775807:=by have:=HJL.out;have:=HLS.out;omega
       go_wp2
       apply_assumption
       go_wp2
       go_roundw
       case rel=>exact ⟨j+1,by simp,HJL.out,FIN.out.1,FIN.out.2⟩
       case measure=>have:=HJL.out;simp[intOf];omega
      have D567:∀(V:World) (s1 s2 s3 s4:Value) (bb:Below W2.heap.size W2 V) (hQ:Qc V s1 s2 s3 s4 (S j+a j)),G 2 #[true,true,true,true,true,true,true,true,false,false] (mk (.agg #[e1,e2,e3,e4]) (.agg #[.bool n1,.slice A1 j1 c1,.bool n2,.slice A3 j2 c3]) (.agg #[s1,s2,s3,s4]) u40) V:=by
       intro V s1 s2 s3 s4 bb hQ
       refine up ?_
       simp only[hmk]
       refine rdy1 (i:=8) (by kernel_rfl) rfl (by rfl) (fun K hK=>?_)
       .go_simp
        refine hK.out _ _ trivial ?_
        have hD:=D5678 V s1 s2 s3 s4 bb hQ
        rw[hmk]at hD
        exact dn hD
      have D56:G 3 #[true,true,true,true,true,true,true,false,false,false] (mk (.agg #[e1,e2,e3,e4]) (.agg #[.bool n1,.slice A1 j1 c1,.bool n2,.slice A3 j2 c3]) u39 u40) W2:=by
       refine up ?_
       simp only[hmk]
       refine rdy1 (i:=7) (by kernel_rfl) rfl (by rfl) (fun K hK=>?_)
       .go_simp
        refine (hADD.out j W2 _ _ _ _ _ _ _ _ HQJ.out HX.out).mono ?_
        rintro e V ⟨s1,s2,s3,s4,rfl,hQ,bb⟩
        refine hK.out _ _ trivial ?_
        have hD:=D567 V s1 s2 s3 s4 bb hQ
        rw[hmk]at hD
        exact dn hD
      have D5:G 4 #[true,true,true,true,true,true,false,false,false,false] (mk (.agg #[e1,e2,e3,e4]) u38 u39 u40) W2:=by
       refine up ?_
       simp only[hmk]
       refine rdy1 (i:=6) (by kernel_rfl) rfl (by rfl) (fun K hK=>?_)
       .have k0:=TX.out.c0
        have k1:=TX.out.c1
        have k2:=TX.out.c2
        have k3:=TX.out.c3
        go_simp
        refine hK.out _ _ trivial ?_
        have hD:=D56
        rw[hmk]at hD
        exact dn hD
      have D6:G 4 #[true,true,true,true,true,false,true,false,false,false] (mk u37 (.agg #[.bool n1,.slice A1 j1 c1,.bool n2,.slice A3 j2 c3]) u39 u40) W2:=by
       refine up ?_
       simp only[hmk]
       refine rdy1 (i:=5) (by kernel_rfl) rfl (by rfl) (fun K hK=>?_)
       .obtain ⟨k0,k1,k2,k3⟩:=HCS.out
        go_simp
        refine hK.out _ _ trivial ?_
        have hD:=D56
        rw[hmk]at hD
        exact dn hD
      have D:G 5 #[true,true,true,true,true,false,false,false,false,false] (mk u37 u38 u39 u40) W2:=by
       refine up ?_
       simp only[hmk]
       refine wpAnyH_ready (rs:=[5,6]) (by kernel_rfl) (by simp) (ready_cons rfl (by rfl) (fun K hK=>?_) (ready_cons rfl (by rfl) (fun K hK=>?_) AllReadyH.nil))
       .obtain ⟨k0,k1,k2,k3⟩:=HCS.out
        go_simp
        refine hK.out _ _ trivial ?_
        have hD:=D5
        rw[hmk]at hD
        exact dn hD
       .have k0:=TX.out.c0
        have k1:=TX.out.c1
        have k2:=TX.out.c2
        have k3:=TX.out.c3
        go_simp
        refine hK.out _ _ trivial ?_
        have hD:=D6
        rw[hmk]at hD
        exact dn hD
      have hD:=D
      rw[hmk]at hD
      exact hD
     .obtain rfl:L=j:=by omega
      have HTJ:=hTj
      have HBJ:=Hd hbj
      clear hTj hbj hjL
      go_wp2
      go_roundw
      case rel =>
       refine ⟨k+1,L,c2,A2,rfl,by simp,HK.out,hlen1.out.trans HMAX.out.1,?_,HBJ.out⟩
       refine HTJ.out.congr fun i hi=>?_
       rw[hNE.out]
       unfold midF
       by_cases hij:i<L
       .rw[if_pos hij]
       .rw[if_neg hij,hAz.out i (by omega),Rat.add_zero]
      case measure=>have:=HK.out;simp[intOf];omega
   .have S1:IntKind.i64.wrap ((L:Int)-(n:Int))=(L:Int)-(n:Int):=by rw[IntKind.wrap_i64];omega
    have S2:¬(0:Int)<(L:Int)-(n:Int):=by omega
    have HMAX:Hid (max n L=n/\L<=n):=by show _/\_;omega
    have HLS:=Hd hls
    have HTOT:=hT2
    have HBB:=Hd (Below.refl wr.heap.size wr)
    have HB':=HB
    clear hbig hls hln hT2
    go_wp2
    go_loopw [27] (fun jv wi=>∃j:Nat,jv=.int .i64 j/\j<=L/\Hid (TotV wi (.slice A n c) n (midF S a j) w.heap.size)/\Below w.heap.size w wi) (fun jv _=>L-(intOf jv).toNat)
    case atStart =>
     exact ⟨0,rfl,Nat.zero_le _,HTOT.out.congr (fun i _=>by unfold midF;rw[if_neg (Nat.not_lt_zero _)]),HB'.out⟩
    case round =>
     obtain ⟨j,rfl,hj,hTj,hbj⟩:=hrel
     by_cases hjL:j<L
     .have hjn:j<n:=Nat.lt_of_lt_of_le hjL HMAX.out.2
      obtain ⟨g,fl,hAg,hg,hrow,hfl,hnc,hc63,hqs,hzs⟩:=hTj.out.row (by omega)
      subst hAg
      obtain ⟨b',o',hAk,hBk,n1,A1,j1,c1,n2,A3,j2,c3,g0,g1,g2,g3,hqi⟩:=hVE.out j hjL
      subst hAk
      have f0:=(hbj.cell (p:=⟨b',o'+j*4,none⟩) hBk).trans g0
      have f1:=(hbj.cell (p:=⟨b',o'+j*4+1,none⟩) hBk).trans g1
      have f2:=(hbj.cell (p:=⟨b',o'+j*4+2,none⟩) hBk).trans g2
      have f3:=(hbj.cell (p:=⟨b',o'+j*4+3,none⟩) hBk).trans g3
      have hX:=hqi.to hbj
      have hji:(0:Int)<=(j:Int):=by omega
      have hji':(j:Int)<(L:Int):=by omega
      have hjni:(j:Int)<(n:Int):=by omega
      have hjf:j<fl.length:=by omega
      have hqj:=hqs j hjn
      rw[show midF S a j j=S j from by unfold midF;rw[if_neg (Nat.lt_irrefl _)]]at hqj
      have hbw1:Below wr.heap.size wr (wr.alloc (.cells #[.bool n1,.slice A1 j1 c1,.bool n2,.slice A3 j2 c3] 26)):=(Below.refl _ _).alloc (Nat.le_refl _) _
      have tX:=Four.new wr (.bool n1) (.slice A1 j1 c1) (.bool n2) (.slice A3 j2 c3) 26
      replace hX:=hX.to hbw1
      replace hrow:=hrow.to hbw1
      replace hqj:=hqj.to hbw1
      have hqs1:Hid (∀i,i<n->Qc (wr.alloc (.cells #[.bool n1,.slice A1 j1 c1,.bool n2,.slice A3 j2 c3] 26)) (fl.getD i E4.z).a (fl.getD i E4.z).b (fl.getD i E4.z).c (fl.getD i E4.z).d (midF S a j i)):=fun i hi=>(hqs i hi).to hbw1
      have hbW:=Bxb hbj hbw1
      have hcs:=hrow.cells hjf
      rw[getD_at' hjf]at hqj
      obtain ⟨E,hE⟩:∃E,fl[j]=E:=⟨_,rfl⟩
      rw[hE]at hcs hqj
      obtain ⟨e1,e2,e3,e4⟩:=E
      have HG:=Hd hg
      have HFL:=Hd hfl
      have HNC:=Hd hnc
      have HC63:=Hd hc63
      have HZ:=Hd hzs
      have HX:=Hd hX
      have HROW:=Hd hrow
      have HQJ:=Hd hqj
      have HBW:=Hd hbW
      have HCS:=Hd hcs
      have HJF:=Hd hjf
      have TX:=Hd tX
      have HJN:=Hd hjn
      have HJL:=Hd hjL
      have HE:Hid (∀V:World,Row V g fl->V.cell? ⟨g,j*4,none⟩=some e1/\V.cell? ⟨g,j*4+1,none⟩=some e2/\V.cell? ⟨g,j*4+2,none⟩=some e3/\V.cell? ⟨g,j*4+3,none⟩=some e4):=fun V h=>by
       have h1:=h.cells hjf
       rw[hE]at h1
       exact h1
      clear hg hfl hnc hc63 hzs hX hrow hqj hbW hcs hjf tX hqs hbw1 hE hqi g0 g1 g2 g3 hjn hjL hj hbj hTj
      go_wp2_with fail
      obtain ⟨W2,hW2⟩:∃W2,W2=(wr.alloc (.cells #[.bool n1,.slice A1 j1 c1,.bool n2,.slice A3 j2 c3] 26)).drew:=⟨_,rfl⟩
      have hbd:Below (wr.alloc (.cells #[.bool n1,.slice A1 j1 c1,.bool n2,.slice A3 j2 c3] 26)).heap.size (wr.alloc (.cells #[.bool n1,.slice A1 j1 c1,.bool n2,.slice A3 j2 c3] 26)) W2:=by rw[hW2];exact (Below.refl _ _).drew
      refine wp_region_planTo (S:=fun _=>True) [(0,true),(1,true),(2,true),(3,true),(4,true)] #[true,true,true,true,true,false,false,false,false,false] 5 (by kernel_rfl) (by kernel_rfl) trivial ?_
      iterate 5 (refine plan_take (v:=?_) rfl (by rfl) ?_ ?_;rotate_left;(focus (intro w' _;go_simp;try with_reducible rfl)))
      intro _
      rw[<-hW2]
      replace hqs1:Hid (∀i,i<n->Qc W2 (fl.getD i E4.z).a (fl.getD i E4.z).b (fl.getD i E4.z).c (fl.getD i E4.z).d (midF S a j i)):=fun i hi=>(hqs1.out i hi).to hbd
      replace HX:=Hd (HX.out.to hbd)
      replace HROW:=Hd (HROW.out.to hbd)
      replace HQJ:=Hd (HQJ.out.to hbd)
      replace HBW:=Hxb HBW hbd
      replace TX:=Hd (TX.out.to hbd)
      replace HCS:=Hd (HE.out W2 HROW.out)
      clear hW2 hbd f0 f1 f2 f3
      obtain ⟨mk,hmk⟩:∃mk:Value->Value->Value->Value->Act,mk=fun x1 x2 x3 x4=>⟨#[.slice (some ⟨b,o,none⟩) N C,undef,.slice none 0 0,.slice (some ⟨g,0,none⟩) n c,undef,.slice (some ⟨b',o',none⟩) L ck,.int .i64 ((L:Int)-(n:Int)),.int .i64 j,.pointer (some ⟨wr.heap.size,0,none⟩),.slice (some ⟨b,o,none⟩) N C,.int .i64 N,.int .i64 k,.bool true,.pointer (some ⟨b,o+k,none⟩),.slice (some ⟨b',o',none⟩) L ck,.slice (some ⟨b',o',none⟩) L ck,.int .i64 L,.slice (some ⟨g,0,none⟩) n c,.int .i64 n,.int .i64 ((L:Int)-(n:Int)),.int .i64 ((L:Int)-(n:Int)),.bool false,u22,u23,u24,.slice (some ⟨b',o',none⟩) L ck,.int .i64 L,.int .i64 j,.bool true,.int .i64 j,.pointer (some ⟨b',o'+j*4,none⟩),.agg #[.bool n1,.slice A1 j1 c1,.bool n2,.slice A3 j2 c3],.slice (some ⟨g,0,none⟩) n c,.int .i64 j,.slice (some ⟨g,0,none⟩) n c,.int .i64 j,.pointer (some ⟨g,j*4,none⟩),x1,x2,x3,x4,u41,u42,undef],[]⟩:=⟨_,rfl⟩
      refine dag (fun G up dn=>?_)
      have D5678:∀(V:World) (s1 s2 s3 s4:Value) (bb:Below W2.heap.size W2 V) (hQ:Qc V s1 s2 s3 s4 (S j+a j)),G 1 #[true,true,true,true,true,true,true,true,true,false] (mk (.agg #[e1,e2,e3,e4]) (.agg #[.bool n1,.slice A1 j1 c1,.bool n2,.slice A3 j2 c3]) (.agg #[s1,s2,s3,s4]) (.pointer (some ⟨g,j*4,none⟩))) V:=by
       intro V s1 s2 s3 s4 bb hQ
       refine up ?_
       simp only[hmk]
       refine rdy1 (i:=9) (by kernel_rfl) rfl (by rfl) (fun K hK=>?_)
       have hr:=HROW.out.to bb
       refine op_storeq (k:=j) (e:=⟨s1,s2,s3,s4⟩) (by rfl) (by rfl) hr HJF.out hQ.fq ?_
       refine hK.out _ _ trivial ?_
       clear hK K
       have FIN:Hid (TotV (V.setRow g (flat (fl.set j ⟨s1,s2,s3,s4⟩)).toArray) (.slice (some ⟨g,0,none⟩) n c) n (midF S a (j+1)) w.heap.size/\Below w.heap.size w (V.setRow g (flat (fl.set j ⟨s1,s2,s3,s4⟩)).toArray)) :=
        ⟨TotV.set HG.out hr HFL.out HNC.out HC63.out (fun i hi=>(hqs1.out i hi).to bb) HZ.out HJN.out hQ.fq hQ,below_setRow (HBW.out.trans (bb.mono HBW.out.size)) HG.out _⟩
       clear hr hQ bb hmk
       refine wpAnyH_done (by kernel_rfl) ?_ _
       show NoPanic _ _ _ _
       clear HQJ HX hqs1 hADD hVE TX HCS HROW
       have hj0:(0:Int)<=(j:Int):=by omega
       have hj1:(j:Int)+1<=9223372036854775807:=by have:=HJL.out;have:=HLS.out;omega
       go_wp2
       apply_assumption
       go_wp2
       go_roundw
       case rel=>exact ⟨j+1,by simp,HJL.out,FIN.out.1,FIN.out.2⟩
       case measure=>have:=HJL.out;simp[intOf];omega
      have D567:∀(V:World) (s1 s2 s3 s4:Value) (bb:Below W2.heap.size W2 V) (hQ:Qc V s1 s2 s3 s4 (S j+a j)),G 2 #[true,true,true,true,true,true,true,true,false,false] (mk (.agg #[e1,e2,e3,e4]) (.agg #[.bool n1,.slice A1 j1 c1,.bool n2,.slice A3 j2 c3]) (.agg #[s1,s2,s3,s4]) u40) V:=by
       intro V s1 s2 s3 s4 bb hQ
       refine up ?_
       simp only[hmk]
       refine rdy1 (i:=8) (by kernel_rfl) rfl (by rfl) (fun K hK=>?_)
       .go_simp
        refine hK.out _ _ trivial ?_
        have hD:=D5678 V s1 s2 s3 s4 bb hQ
        rw[hmk]at hD
        exact dn hD
      have D56:G 3 #[true,true,true,true,true,true,true,false,false,false] (mk (.agg #[e1,e2,e3,e4]) (.agg #[.bool n1,.slice A1 j1 c1,.bool n2,.slice A3 j2 c3]) u39 u40) W2:=by
       refine up ?_
       simp only[hmk]
       refine rdy1 (i:=7) (by kernel_rfl) rfl (by rfl) (fun K hK=>?_)
       .go_simp
        refine (hADD.out j W2 _ _ _ _ _ _ _ _ HQJ.out HX.out).mono ?_
        rintro e V ⟨s1,s2,s3,s4,rfl,hQ,bb⟩
        refine hK.out _ _ trivial ?_
        have hD:=D567 V s1 s2 s3 s4 bb hQ
        rw[hmk]at hD
        exact dn hD
      have D5:G 4 #[true,true,true,true,true,true,false,false,false,false] (mk (.agg #[e1,e2,e3,e4]) u38 u39 u40) W2:=by
       refine up ?_
       simp only[hmk]
       refine rdy1 (i:=6) (by kernel_rfl) rfl (by rfl) (fun K hK=>?_)
       .have k0:=TX.out.c0
        have k1:=TX.out.c1
        have k2:=TX.out.c2
        have k3:=TX.out.c3
        go_simp
        refine hK.out _ _ trivial ?_
        have hD:=D56
        rw[hmk]at hD
        exact dn hD
      have D6:G 4 #[true,true,true,true,true,false,true,false,false,false] (mk u37 (.agg #[.bool n1,.slice A1 j1 c1,.bool n2,.slice A3 j2 c3]) u39 u40) W2:=by
       refine up ?_
       simp only[hmk]
       refine rdy1 (i:=5) (by kernel_rfl) rfl (by rfl) (fun K hK=>?_)
       .obtain ⟨k0,k1,k2,k3⟩:=HCS.out
        go_simp
        refine hK.out _ _ trivial ?_
        have hD:=D56
        rw[hmk]at hD
        exact dn hD
      have D:G 5 #[true,true,true,true,true,false,false,false,false,false] (mk u37 u38 u39 u40) W2:=by
       refine up ?_
       simp only[hmk]
       refine wpAnyH_ready (rs:=[5,6]) (by kernel_rfl) (by simp) (ready_cons rfl (by rfl) (fun K hK=>?_) (ready_cons rfl (by rfl) (fun K hK=>?_) AllReadyH.nil))
       .obtain ⟨k0,k1,k2,k3⟩:=HCS.out
        go_simp
        refine hK.out _ _ trivial ?_
        have hD:=D5
        rw[hmk]at hD
        exact dn hD
       .have k0:=TX.out.c0
        have k1:=TX.out.c1
        have k2:=TX.out.c2
        have k3:=TX.out.c3
        go_simp
        refine hK.out _ _ trivial ?_
        have hD:=D6
        rw[hmk]at hD
        exact dn hD
      have hD:=D
      rw[hmk]at hD
      exact hD
     .obtain rfl:L=j:=by omega
      have HTJ:=hTj
      have HBJ:=Hd hbj
      clear hTj hbj hjL
      go_wp2
      go_roundw
      case rel =>
       refine ⟨k+1,n,c,A,rfl,by simp,HK.out,hlen1.out.trans HMAX.out.1,?_,HBJ.out⟩
       refine HTJ.out.congr fun i hi=>?_
       rw[hNE.out]
       unfold midF
       by_cases hij:i<L
       .rw[if_pos hij]
       .rw[if_neg hij,hAz.out i (by omega),Rat.add_zero]
      case measure=>have:=HK.out;simp[intOf];omega
  .obtain rfl:k=N:=by omega
   have HT:=hT
   have HB:=Hd hb
   have HN:=hn
   clear hT hb hlt hn
   go_wp2
   go_ret
   have h1:=HT.out
   have h2:=HN.out
   subst h2
   exact h1.vr (Nat.le_trans (sumV_len HL.out k) (by decide)) HB.out
end Go.Proofs.YtiifpobhmnplaaaGreat
