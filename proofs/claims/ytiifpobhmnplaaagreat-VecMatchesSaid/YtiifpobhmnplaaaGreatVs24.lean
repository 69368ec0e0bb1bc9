/- Parts: 16. -/
import Derived.Test.YtiifpobhmnplaaaGreatVs17
import Derived.Test.YtiifpobhmnplaaaGreatVs20
import Derived.Test.YtiifpobhmnplaaaGreatVs21
import Derived.Test.YtiifpobhmnplaaaGreatVs23
import Derived.Deep.Slices
set_option linter.unusedVariables false
set_option linter.unusedSimpArgs false
set_option maxRecDepth 100000
set_option maxHeartbeats 40000000

namespace Go.Proofs.YtiifpobhmnplaaaGreat
open Go.RowKit Go.Shelf
theorem flong_o (g o:Nat)(A:Option Addr)(ls:List (Nat×Nat))(cap:Nat)(w:World)(hA:∀(k:Nat),k<ls.length->A=some ⟨g,o,none⟩/\g<w.heap.size)
  (h:∀(k:Nat) (hk:k<ls.length),∃n1 A1 c1 n2 A2 c2,w.cell? ⟨g,o+k*4,none⟩=some (.bool n1)/\w.cell? ⟨g,o+k*4+1,none⟩=some (.slice A1 ls[k].1 c1)/\w.cell? ⟨g,o+k*4+2,none⟩=some (.bool n2)/\w.cell? ⟨g,o+k*4+3,none⟩=some (.slice A2 ls[k].2 c2))
  (hs:∀(k:Nat) (hk:k<ls.length),ls[k].1<=9223372036854775807/\ls[k].2<=9223372036854775807) (hl:ls.length<=1000) {r:Bool} (hr:(ls.any fun p=>decide (6<p.1)||decide (6<p.2))=r) :
  Calls Tryz.prog 12 #[.slice A ls.length cap] w fun e w'=>e=.returned (.bool r)/\Below w.heap.size w w':=by
 have H:=Hd h
 have HS:=Hd hs
 have HA:=Hd hA
 have HR:=Hd hr
 clear h hs hA hr
 go_enter Tryz.func12,Tryz.ntmps12
 go_wp2
 go_loopw [3] (fun i wr=>∃k:Nat,i=.int .i64 k/\k<=ls.length/\(∀j (hj:j<ls.length),j<k->ls[j].1<=6/\ls[j].2<=6)/\Below w.heap.size w wr) (fun i _=>ls.length-(intOf i).toNat)
 case atStart=>exact ⟨0,rfl,Nat.zero_le _,(fun j _ hj=>by omega),Below.refl _ _⟩
 case round =>
  obtain ⟨k,rfl,hk,ht,hb⟩:=hrel
  have HT:=Hd ht
  have HB:=Hd hb
  clear ht hb
  by_cases hlt:k<ls.length
  .obtain ⟨rfl,hg⟩:=HA.out k hlt
   have HG:=Hd hg
   clear hg
   have hc:=H.out k hlt
   have hm:=HS.out k hlt
   have hki:(0:Int)<=(k:Int):=by omega
   have hki':(k:Int)<(ls.length:Int):=by omega
   have HN:Hid (ls[k]=ls[k]):=rfl
   obtain ⟨⟨m1,m2⟩,hn⟩:∃m,ls[k]=m:=⟨_,rfl⟩
   rw[hn]at hc hm
   have HN2:=Hd hn
   obtain ⟨n1,A1,c1,n2,A2,c2,hc⟩:=hc
   have HF:Hid (∀w',Below w.heap.size w w'->w'.cell? ⟨g,o+k*4,none⟩=some (.bool n1)/\w'.cell? ⟨g,o+k*4+1,none⟩=some (.slice A1 m1 c1)/\w'.cell? ⟨g,o+k*4+2,none⟩=some (.bool n2)/\w'.cell? ⟨g,o+k*4+3,none⟩=some (.slice A2 m2 c2)):=fun w' hS =>
    ⟨(hS.cell (p:=⟨g,o+k*4,none⟩) HG.out).trans hc.1,(hS.cell (p:=⟨g,o+k*4+1,none⟩) HG.out).trans hc.2.1,(hS.cell (p:=⟨g,o+k*4+2,none⟩) HG.out).trans hc.2.2.1,(hS.cell (p:=⟨g,o+k*4+3,none⟩) HG.out).trans hc.2.2.2⟩
   have M1:=Hd hm.1
   have M2:=Hd hm.2
   clear hc hm hn HN
   by_cases ha:12<m1∨12<m2
   .have HL:Hid ([m1,m2].any (fun n=>decide (12<n))=true):=by show _=_;simpa using ha
    have hany:Hid ((ls.any fun p=>decide (6<p.1)||decide (6<p.2))=true):=by
     show _=_
     rw[List.any_eq_true]
     exact ⟨ls[k],List.getElem_mem hlt,by rw[HN2.out];simp;omega⟩
    clear ha
    go_wp2_with fail
    refine wp_region_plan (S:=fun w'=>Below w.heap.size w w') [(0,true),(1,true),(2,true),(3,true),(4,true),(5,true),(6,true),(7,true),(8,true),(9,true),(10,false),(11,false),(12,true),(13,true),(14,true),(15,true),(16,true),(17,true),(18,true),(19,true),(20,true),(21,true),(22,true),(23,true),(24,true),(25,true),(26,true),(27,true),(28,true),(29,true),(30,true),(31,true)] (by kernel_rfl) (by kernel_rfl) HB.out.drew ?_
    have hb:=HB.out.drew
    iterate 10 (refine plan_take (v:=?_) rfl (by rfl) ?_ ?_;rotate_left;(focus (intro w' hS;obtain ⟨f0,f1,f2,f3⟩:=HF.out w' hS;go_simp;try with_reducible rfl));simp only[Act.put,List.setIfInBounds_toArray,List.set_cons_zero,List.set_cons_succ])
    refine plan_call rfl (by rfl) (fun K hK=>?_)
    go_simp
    have hnew:=(Four.new wr (.bool n1) (.slice A1 m1 c1) (.bool n2) (.slice A2 m2 c2) 24).to (Below.refl _ _).drew
    replace hb:=hb.alloc hb.size (.cells #[.bool n1,.slice A1 m1 c1,.bool n2,.slice A2 m2 c2] 24)
    refine hK.out _ _ hb ?_
    clear hK K
    refine plan_call rfl (by rfl) (fun K hK=>?_)
    go_simp
    refine (long_2 M1.out M2.out hnew.c1 hnew.c3 HL.out).mono ?_
    rintro e V ⟨rfl,rfl⟩
    refine hK.out _ _ hb ?_
    clear hK K hnew
    refine plan_take (v:=?_) rfl (by rfl) ?_ ?_;rotate_left;(focus (intro w' hS;go_simp;try with_reducible rfl));simp only[Act.put,List.setIfInBounds_toArray,List.set_cons_zero,List.set_cons_succ]
    iterate 8 (refine plan_skip rfl (by rfl) ?_;simp only[Act.put,List.setIfInBounds_toArray,List.set_cons_zero,List.set_cons_succ])
    iterate 2 (refine plan_take (v:=?_) rfl (by rfl) ?_ ?_;rotate_left;(focus (intro w' hS;go_simp;try with_reducible rfl));simp only[Act.put,List.setIfInBounds_toArray,List.set_cons_zero,List.set_cons_succ])
    iterate 8 (refine plan_skip rfl (by rfl) ?_;simp only[Act.put,List.setIfInBounds_toArray,List.set_cons_zero,List.set_cons_succ])
    refine plan_take (v:=?_) rfl (by rfl) ?_ ?_;rotate_left;(focus (intro w' hS;go_simp;try with_reducible rfl));simp only[Act.put,List.setIfInBounds_toArray,List.set_cons_zero,List.set_cons_succ]
    refine plan_done ?_
    have HE:=Hd hb
    clear hb HB
    go_wp2
    go_ret
    exact ⟨by rw[<-HR.out,hany.out];rfl,HE.out⟩
   .have HL:Hid ([m1,m2].any (fun n=>decide (12<n))=false):=by show _=_;simpa using ha
    by_cases hb6:6<m1
    .have hany:Hid ((ls.any fun p=>decide (6<p.1)||decide (6<p.2))=true):=by
      show _=_
      rw[List.any_eq_true]
      exact ⟨ls[k],List.getElem_mem hlt,by rw[HN2.out];simp;omega⟩
     clear ha
     have d1:decide ((6:Int)<(m1:Int))=true:=by simp;omega
     clear hb6
     go_wp2_with fail
     refine wp_region_plan (S:=fun w'=>Below w.heap.size w w') [(0,true),(1,true),(2,true),(3,true),(4,true),(5,true),(6,true),(7,true),(8,true),(9,true),(10,false),(11,false),(12,true),(13,true),(14,true),(15,true),(16,true),(17,true),(18,true),(19,true),(20,true),(21,true),(22,true),(23,true),(24,true),(25,true),(26,true),(27,true),(28,true),(29,true),(30,true),(31,true)] (by kernel_rfl) (by kernel_rfl) HB.out.drew ?_
     have hb:=HB.out.drew
     iterate 10 (refine plan_take (v:=?_) rfl (by rfl) ?_ ?_;rotate_left;(focus (intro w' hS;obtain ⟨f0,f1,f2,f3⟩:=HF.out w' hS;go_simp;try with_reducible rfl));simp only[Act.put,List.setIfInBounds_toArray,List.set_cons_zero,List.set_cons_succ])
     refine plan_call rfl (by rfl) (fun K hK=>?_)
     go_simp
     have hnew:=(Four.new wr (.bool n1) (.slice A1 m1 c1) (.bool n2) (.slice A2 m2 c2) 24).to (Below.refl _ _).drew
     replace hb:=hb.alloc hb.size (.cells #[.bool n1,.slice A1 m1 c1,.bool n2,.slice A2 m2 c2] 24)
     refine hK.out _ _ hb ?_
     clear hK K
     refine plan_call rfl (by rfl) (fun K hK=>?_)
     go_simp
     refine (long_2 M1.out M2.out hnew.c1 hnew.c3 HL.out).mono ?_
     rintro e V ⟨rfl,rfl⟩
     refine hK.out _ _ hb ?_
     clear hK K hnew
     iterate 3 (refine plan_take (v:=?_) rfl (by rfl) ?_ ?_;rotate_left;(focus (intro w' hS;go_simp;try with_reducible rfl));simp only[Act.put,List.setIfInBounds_toArray,List.set_cons_zero,List.set_cons_succ])
     iterate 4 (refine plan_take (v:=?_) rfl (by rfl) ?_ ?_;rotate_left;(focus (intro w' hS;obtain ⟨f0,f1,f2,f3⟩:=HF.out w' hS;go_simp;try with_reducible rfl));simp only[Act.put,List.setIfInBounds_toArray,List.set_cons_zero,List.set_cons_succ])
     iterate 4 (refine plan_take (v:=?_) rfl (by rfl) ?_ ?_;rotate_left;(focus (intro w' hS;go_simp;try with_reducible rfl));simp only[Act.put,List.setIfInBounds_toArray,List.set_cons_zero,List.set_cons_succ])
     iterate 8 (refine plan_skip rfl (by rfl) ?_;simp only[Act.put,List.setIfInBounds_toArray,List.set_cons_zero,List.set_cons_succ])
     refine plan_take (v:=?_) rfl (by rfl) ?_ ?_;rotate_left;(focus (intro w' hS;go_simp;try with_reducible rfl));simp only[Act.put,List.setIfInBounds_toArray,List.set_cons_zero,List.set_cons_succ]
     refine plan_done ?_
     have HE:=Hd hb
     clear hb HB
     go_wp2
     go_ret
     exact ⟨by rw[<-HR.out,hany.out];rfl,HE.out⟩
    .by_cases hc6:6<m2
     .have hany:Hid ((ls.any fun p=>decide (6<p.1)||decide (6<p.2))=true):=by
       show _=_
       rw[List.any_eq_true]
       exact ⟨ls[k],List.getElem_mem hlt,by rw[HN2.out];simp;omega⟩
      clear ha
      have d1:decide ((6:Int)<(m1:Int))=false:=by simp;omega
      have d2:decide ((6:Int)<(m2:Int))=true:=by simp;omega
      clear hb6 hc6
      go_wp2_with fail
      refine wp_region_plan (S:=fun w'=>Below w.heap.size w w') [(0,true),(1,true),(2,true),(3,true),(4,true),(5,true),(6,true),(7,true),(8,true),(9,true),(10,false),(11,false),(12,true),(13,true),(14,true),(15,true),(16,true),(17,true),(18,true),(19,true),(20,true),(21,true),(22,true),(23,true),(24,true),(25,true),(26,true),(27,true),(28,true),(29,true),(30,true),(31,true)] (by kernel_rfl) (by kernel_rfl) HB.out.drew ?_
      have hb:=HB.out.drew
      iterate 10 (refine plan_take (v:=?_) rfl (by rfl) ?_ ?_;rotate_left;(focus (intro w' hS;obtain ⟨f0,f1,f2,f3⟩:=HF.out w' hS;go_simp;try with_reducible rfl));simp only[Act.put,List.setIfInBounds_toArray,List.set_cons_zero,List.set_cons_succ])
      refine plan_call rfl (by rfl) (fun K hK=>?_)
      go_simp
      have hnew:=(Four.new wr (.bool n1) (.slice A1 m1 c1) (.bool n2) (.slice A2 m2 c2) 24).to (Below.refl _ _).drew
      replace hb:=hb.alloc hb.size (.cells #[.bool n1,.slice A1 m1 c1,.bool n2,.slice A2 m2 c2] 24)
      refine hK.out _ _ hb ?_
      clear hK K
      refine plan_call rfl (by rfl) (fun K hK=>?_)
      go_simp
      refine (long_2 M1.out M2.out hnew.c1 hnew.c3 HL.out).mono ?_
      rintro e V ⟨rfl,rfl⟩
      refine hK.out _ _ hb ?_
      clear hK K hnew
      iterate 3 (refine plan_take (v:=?_) rfl (by rfl) ?_ ?_;rotate_left;(focus (intro w' hS;go_simp;try with_reducible rfl));simp only[Act.put,List.setIfInBounds_toArray,List.set_cons_zero,List.set_cons_succ])
      iterate 4 (refine plan_take (v:=?_) rfl (by rfl) ?_ ?_;rotate_left;(focus (intro w' hS;obtain ⟨f0,f1,f2,f3⟩:=HF.out w' hS;go_simp;try with_reducible rfl));simp only[Act.put,List.setIfInBounds_toArray,List.set_cons_zero,List.set_cons_succ])
      iterate 6 (refine plan_take (v:=?_) rfl (by rfl) ?_ ?_;rotate_left;(focus (intro w' hS;go_simp;try with_reducible rfl));simp only[Act.put,List.setIfInBounds_toArray,List.set_cons_zero,List.set_cons_succ])
      iterate 4 (refine plan_take (v:=?_) rfl (by rfl) ?_ ?_;rotate_left;(focus (intro w' hS;obtain ⟨f0,f1,f2,f3⟩:=HF.out w' hS;go_simp;try with_reducible rfl));simp only[Act.put,List.setIfInBounds_toArray,List.set_cons_zero,List.set_cons_succ])
      iterate 3 (refine plan_take (v:=?_) rfl (by rfl) ?_ ?_;rotate_left;(focus (intro w' hS;go_simp;try with_reducible rfl));simp only[Act.put,List.setIfInBounds_toArray,List.set_cons_zero,List.set_cons_succ])
      refine plan_done ?_
      have HE:=Hd hb
      clear hb HB
      go_wp2
      go_ret
      exact ⟨by rw[<-HR.out,hany.out];rfl,HE.out⟩
     .have hok:Hid (m1<=6/\m2<=6):=by show _/\_;omega
      clear ha
      have d1:decide ((6:Int)<(m1:Int))=false:=by simp;omega
      have d2:decide ((6:Int)<(m2:Int))=false:=by simp;omega
      clear hb6 hc6
      go_wp2_with fail
      refine wp_region_plan (S:=fun w'=>Below w.heap.size w w') [(0,true),(1,true),(2,true),(3,true),(4,true),(5,true),(6,true),(7,true),(8,true),(9,true),(10,false),(11,false),(12,true),(13,true),(14,true),(15,true),(16,true),(17,true),(18,true),(19,true),(20,true),(21,true),(22,true),(23,true),(24,true),(25,true),(26,true),(27,true),(28,true),(29,true),(30,true),(31,true)] (by kernel_rfl) (by kernel_rfl) HB.out.drew ?_
      have hb:=HB.out.drew
      iterate 10 (refine plan_take (v:=?_) rfl (by rfl) ?_ ?_;rotate_left;(focus (intro w' hS;obtain ⟨f0,f1,f2,f3⟩:=HF.out w' hS;go_simp;try with_reducible rfl));simp only[Act.put,List.setIfInBounds_toArray,List.set_cons_zero,List.set_cons_succ])
      refine plan_call rfl (by rfl) (fun K hK=>?_)
      go_simp
      have hnew:=(Four.new wr (.bool n1) (.slice A1 m1 c1) (.bool n2) (.slice A2 m2 c2) 24).to (Below.refl _ _).drew
      replace hb:=hb.alloc hb.size (.cells #[.bool n1,.slice A1 m1 c1,.bool n2,.slice A2 m2 c2] 24)
      refine hK.out _ _ hb ?_
      clear hK K
      refine plan_call rfl (by rfl) (fun K hK=>?_)
      go_simp
      refine (long_2 M1.out M2.out hnew.c1 hnew.c3 HL.out).mono ?_
      rintro e V ⟨rfl,rfl⟩
      refine hK.out _ _ hb ?_
      clear hK K hnew
      iterate 3 (refine plan_take (v:=?_) rfl (by rfl) ?_ ?_;rotate_left;(focus (intro w' hS;go_simp;try with_reducible rfl));simp only[Act.put,List.setIfInBounds_toArray,List.set_cons_zero,List.set_cons_succ])
      iterate 4 (refine plan_take (v:=?_) rfl (by rfl) ?_ ?_;rotate_left;(focus (intro w' hS;obtain ⟨f0,f1,f2,f3⟩:=HF.out w' hS;go_simp;try with_reducible rfl));simp only[Act.put,List.setIfInBounds_toArray,List.set_cons_zero,List.set_cons_succ])
      iterate 6 (refine plan_take (v:=?_) rfl (by rfl) ?_ ?_;rotate_left;(focus (intro w' hS;go_simp;try with_reducible rfl));simp only[Act.put,List.setIfInBounds_toArray,List.set_cons_zero,List.set_cons_succ])
      iterate 4 (refine plan_take (v:=?_) rfl (by rfl) ?_ ?_;rotate_left;(focus (intro w' hS;obtain ⟨f0,f1,f2,f3⟩:=HF.out w' hS;go_simp;try with_reducible rfl));simp only[Act.put,List.setIfInBounds_toArray,List.set_cons_zero,List.set_cons_succ])
      iterate 3 (refine plan_take (v:=?_) rfl (by rfl) ?_ ?_;rotate_left;(focus (intro w' hS;go_simp;try with_reducible rfl));simp only[Act.put,List.setIfInBounds_toArray,List.set_cons_zero,List.set_cons_succ])
      refine plan_done ?_
      have HE:=Hd hb
      clear hb HB
      go_wp2
      go_roundw
      case rel=>exact ⟨k+1,by simp,by omega,(fun j hj hjk=>by
       rcases Nat.lt_or_ge j k with h1|h1
       .exact HT.out j hj h1
       .obtain rfl:j=k:=by omega
        rw[HN2.out];exact hok.out),HE.out⟩
      case measure=>simp[intOf];omega
  .obtain rfl:k=ls.length:=by omega
   clear hlt
   go_wp2
   go_ret
   refine ⟨?_,HB.out⟩
   have:(ls.any fun p=>decide (6<p.1)||decide (6<p.2))=false:=by
    rw[List.any_eq_false]
    intro x hx
    obtain ⟨j,hj,rfl⟩:=List.getElem_of_mem hx
    have:=HT.out j hj hj
    simp;omega
   rw[<-HR.out,this]
   rfl
def ZxE (W:World)(e:E4):Prop:=Zx2 W e.a e.b/\Zx2 W e.c e.d
theorem Zx2.to {W V:World}{x y:Value}(h:Zx2 W x y)(hb:Below W.heap.size W V):Zx2 V x y:=by
 obtain ⟨n,A,c,xs,h1,h2,h3,h4⟩:=h
 exact ⟨n,A,c,xs,h1,h2,h3.to hb,h4⟩
theorem ZxE.to {W V:World}{e:E4}(h:ZxE W e)(hb:Below W.heap.size W V):ZxE V e:=⟨h.1.to hb,h.2.to hb⟩
theorem ZxE.fq {W:World}{e:E4}(h:ZxE W e):e.fq:=by
 obtain ⟨⟨n,A,c,xs,h1,h2,_⟩,⟨m,B,d,ys,h3,h4,_⟩⟩:=h
 exact ⟨⟨n,A,xs.length,c,h1,h2⟩,⟨m,B,ys.length,d,h3,h4⟩⟩
def vlen : Value->Nat
 | .slice _ n _=>n
 | _=>0
def lngE (e:E4):Bool:=decide (6<vlen e.b)||decide (6<vlen e.d)
def lngV (es:List E4):Bool:=decide (20<es.length)||es.any lngE
structure VA where
 A:Option Addr
 c:Nat
 es:List E4
structure VIn (W:World)(v:VA):Prop where
 row:Rq W W.heap.size v.A v.es
 el:∀e∈v.es,ZxE W e
 cap:v.es.length<=v.c
 c63:v.c<=9223372036854775807
theorem VIn.to {W V:World}{v:VA}(h:VIn W v)(hb:Below W.heap.size W V):VIn V v:=⟨h.row.to hb,fun e he=>(h.el e he).to hb,h.cap,h.c63⟩
theorem flong_v {w:World}{v:VA}(h:VIn w v)(hl:v.es.length<=1000){r:Bool}(hr:v.es.any lngE=r) :
  Calls Tryz.prog 12 #[.slice v.A v.es.length v.c] w fun e w'=>e=.returned (.bool r)/\Below w.heap.size w w':=by
 obtain ⟨A,c,es⟩:=v
 obtain ⟨hrow,hel,hcap,hc63⟩:=h
 dsimp only at hrow hel hcap hc63 hl hr ⊢
 have key:∃g o,∀k,k<es.length->A=some ⟨g,o,none⟩/\g<w.heap.size:=by
  by_cases h0:0<es.length
  .obtain ⟨b,o,rfl,hb,_⟩:=hrow 0 h0
   exact ⟨b,o,fun k _=>⟨rfl,hb⟩⟩
  .exact ⟨0,0,fun k hk=>by omega⟩
 obtain ⟨g,o,key⟩:=key
 have h1:=flong_o g o A (es.map fun e=>(vlen e.b,vlen e.d)) c w (fun k hk=>key k (by simpa using hk)) (fun k hk=>by
  have hk':k<es.length:=by simpa using hk
  obtain ⟨b,o',e1,hb,c0,c1,c2,c3⟩:=hrow k hk'
  obtain ⟨e2,_⟩:=key k hk'
  rw[e1]at e2
  simp only[Option.some.injEq,Addr.mk.injEq,and_true]at e2
  obtain ⟨rfl,rfl⟩:=e2
  obtain ⟨⟨n,A1,d1,xs,f1,f2,_⟩,⟨m,A2,d2,ys,f3,f4,_⟩⟩:=hel _ (List.getElem_mem hk')
  rw[f1]at c0
  rw[f2]at c1
  rw[f3]at c2
  rw[f4]at c3
  refine ⟨n,A1,d1,m,A2,d2,c0,?_,c2,?_⟩
  .rw[c1];simp[f2,vlen]
  .rw[c3];simp[f4,vlen]) (fun k hk=>by
  have hk':k<es.length:=by simpa using hk
  obtain ⟨⟨n,A1,d1,xs,f1,f2,_,_,g1,g2⟩,⟨m,A2,d2,ys,f3,f4,_,_,g3,g4⟩⟩:=hel _ (List.getElem_mem hk')
  simp only[List.getElem_map,f2,f4,vlen]
  exact ⟨by omega,by omega⟩) (by simpa using hl) (r:=r) (by rw[<-hr,List.any_map];rfl)
 rw[List.length_map]at h1
 exact h1
theorem VIn.vi {w:World}{v:VA}(h:VIn w v)(hl:lngV v.es=false):∃rs,Vi w v.A v.c v.es rs 6/\rs.length<=20:=by
 obtain ⟨A,c,es⟩:=v
 obtain ⟨hrow,hel,hcap,hc63⟩:=h
 dsimp only at hrow hel hcap hc63 hl ⊢
 unfold lngV at hl
 simp only[Bool.or_eq_false_iff,decide_eq_false_iff_not,List.any_eq_false]at hl
 have key:∀e∈es,∃r:Rat,Qi w e.a e.b e.c e.d r 6:=fun e he=>by
  have h1:=hl.2 e he
  obtain ⟨⟨n,A1,d1,xs,f1,f2,r1,g1,l1,m1⟩,⟨m,A2,d2,ys,f3,f4,r2,g2,l2,m2⟩⟩:=hel e he
  unfold lngE at h1
  simp only[f2,f4,vlen,Bool.or_eq_true,decide_eq_true_eq,not_or]at h1
  refine ⟨_,_,_,⟨n,A1,d1,xs,f1,f2,⟨r1,g1,l1,m1,by omega⟩,by omega,rfl⟩,⟨m,A2,d2,ys,f3,f4,⟨r2,g2,l2,m2,by omega⟩,by omega,rfl⟩,rfl,Sm.zof g1 (by omega),Sm.zof g2 (by omega)⟩
 obtain ⟨rs,h1,h2⟩:∃rs:List Rat,es.length=rs.length/\∀i,Qi w (es.getD i E4.z).a (es.getD i E4.z).b (es.getD i E4.z).c (es.getD i E4.z).d (rs.getD i 0) 6:=by
  clear hrow hcap hl hel
  induction es with
  | nil=>exact ⟨[],rfl,fun i=>by simpa [E4.z]using Qi.zero w⟩
  | cons e r ih =>
   obtain ⟨q,hq⟩:=key e (by simp)
   obtain ⟨rs,h1,h2⟩:=ih (fun e he=>key e (by simp[he]))
   refine ⟨q::rs,by simp[h1],fun i=>?_⟩
   cases i with
   | zero=>simpa using hq
   | succ i=>simpa using h2 i
 exact ⟨rs,⟨hrow,h1,h2,fun e he=>(hel e he).fq,hcap,hc63⟩,by rw[<-h1];omega⟩
end Go.Proofs.YtiifpobhmnplaaaGreat

namespace Go.Proofs.YtiifpobhmnplaaaGreat
open Go.ChangeShapes Go.WideShapes Go.ChangeAt Go.RowKit Go.Joins
instance : Inhabited E4:=⟨E4.z⟩
theorem spot_none {W:World}{a:Addr}{v:Value}(h:W.cell? a=some v):a.spot=none:=by
 unfold World.cell? at h
 split at h
 .split at h
  .cases h
  .rename_i hs
   simpa using hs
 .cases h
theorem open_v {H:Type}{enc:TypeId×Value->H}{W:World}{base:Nat}{spare:Nat->Bool}{held:Bool}{r:Reach}{b0:Nat}{v:Value}{d:DataW H}{p:List MemPlace}
  (hs:∀b,spare b=true) (hv:Value.okWide Tryz.prog W r b0 27 v) (h:DataW.Trod enc Tryz.prog W base spare held 27 v d p) :
  ∃A c es,v=.slice A es.length c/\VIn W ⟨A,c,es⟩:=by
 obtain ⟨a,len,cap,rfl⟩:=okWide_slice Tryz.underlying27 hv
 obtain ⟨fuel,hf⟩:=h
 replace hf:DataW.trod enc Tryz.prog W base spare held fuel 27 [.slice a len cap]=some (d,p):=hf
 rcases Go.Deep.open_slice Tryz.underlying27 hf with ⟨e1,_⟩|⟨ad,l,cp,m,n,D,Pl,e1,hb,hl,hm,hmm,_,hx⟩
 .simp only[List.cons.injEq,Value.slice.injEq,and_true]at e1
  obtain ⟨rfl,rfl,rfl⟩:=e1
  exact ⟨none,0,[],rfl,⟨Rq.nil,fun e he=>(by cases he),Nat.le_refl _,by decide⟩⟩
 .simp only[List.cons.injEq,Value.slice.injEq,and_true]at e1
  obtain ⟨rfl,rfl,rfl⟩:=e1
  have hlm:len<=m:=by rw[hmm];split<;>omega
  have each:∀i,i<len->∃E:E4,(W.cell? (ad.add (i*4))=some E.a/\W.cell? (ad.add (i*4+1))=some E.b/\W.cell? (ad.add (i*4+2))=some E.c/\W.cell? (ad.add (i*4+3))=some E.d)/\ZxE W E:=by
   intro i hi
   obtain ⟨cs',h1,h2⟩:=hx i (by omega)
   rw[cellsQ]at h1
   obtain ⟨_,hlen,hcell⟩:=World.cells?_some h1
   match cs',hlen with
   | [c0,c1,c2,c3],_ =>
    have f0:=hcell 0 (by omega)
    have f1:=hcell 1 (by omega)
    have f2:=hcell 2 (by omega)
    have f3:=hcell 3 (by omega)
    rw[Go.Deep.add_add]at f0 f1 f2 f3
    exact ⟨⟨c0,c1,c2,c3⟩,⟨by simpa using f0,by simpa using f1,by simpa using f2,by simpa using f3⟩,trod_q hs h2⟩
  obtain ⟨E,hE⟩:=Go.Deep.choose_lt each
  have hlen:((List.range len).map E).length=len:=by simp
  refine ⟨some ad,cap,(List.range len).map E,by rw[hlen],⟨?_,?_,by show ((List.range len).map E).length<=cap;rw[hlen];exact hl,by have:=hm;unfold maxLen at this;show cap<=_;omega⟩⟩
  .intro k hk
   have hk':k<len:=by rw[<-hlen];exact hk
   obtain ⟨⟨c0,c1,c2,c3⟩,_⟩:=hE k hk'
   have hsp:=spot_none (hE 0 (by omega)).1.1
   obtain ⟨b,o,sp⟩:=ad
   have h0:(⟨b,o,sp⟩:Addr).add (0*4)=⟨b,o,sp⟩:=by simp[Addr.add]
   rw[h0]at hsp
   dsimp only at hsp
   subst hsp
   have hadd:∀j,(⟨b,o,none⟩:Addr).add j=⟨b,o+j,none⟩:=fun j=>by
    unfold Addr.add
    by_cases hj:j=0
    .simp[hj]
    .simp[hj]
   rw[hadd]at c0 c1 c2 c3
   refine ⟨b,o,rfl,World.block_lt_of_cell? W _ c0,?_⟩
   have he:((List.range len).map E)[k]=E k:=by simp
   show W.cell? ⟨b,o+k*4,none⟩=some (((List.range len).map E)[k]).a/\W.cell? ⟨b,o+k*4+1,none⟩=some (((List.range len).map E)[k]).b/\W.cell? ⟨b,o+k*4+2,none⟩=some (((List.range len).map E)[k]).c/\W.cell? ⟨b,o+k*4+3,none⟩=some (((List.range len).map E)[k]).d
   rw[he]
   exact ⟨c0,by rw[<-Nat.add_assoc]at c1;exact c1,by rw[<-Nat.add_assoc]at c2;exact c2,by rw[<-Nat.add_assoc]at c3;exact c3⟩
  .intro e he
   obtain ⟨i,hi,rfl⟩:=List.mem_map.1 he
   exact (hE i (List.mem_range.1 hi)).2
end Go.Proofs.YtiifpobhmnplaaaGreat

namespace Go.Proofs.YtiifpobhmnplaaaGreat
open Go.RowKit Go.Shelf
def scaleQ (t:Rat)(rs:List Rat):List Rat:=ptw (fun r s=>t*r+s) rs []
structure Vm (k:Nat)(rs:List Rat):Prop where
 qm:∀i,Qm k (rs.getD i 0)
 len:rs.length<=20
theorem Vm.l {k:Nat}{rs:List Rat}(h:Vm k rs):rs.length<=4398046511104:=Nat.le_trans h.len (by decide)
theorem Vm.nil : Vm 1 []:=⟨fun i=>⟨Nat.pow_pos (by decide),Sm.one (by decide)⟩,by decide⟩
theorem Vm.add {k l:Nat}{rs ss:List Rat}(h:Vm k rs)(h':Vm l ss):Vm (k+l+1) (ptw (fun r s=>r+s) rs ss) :=
 ⟨fun i=>by rw[ptw_getD (by decide +kernel)];exact (h.qm i).add (h'.qm i),by have:=h.len;have:=h'.len;rw[ptw_length];omega⟩
theorem Vm.sub {k l:Nat}{rs ss:List Rat}(h:Vm k rs)(h':Vm l ss):Vm (k+l+1) (ptw (fun r s=>r-s) rs ss) :=
 ⟨fun i=>by rw[ptw_getD (by decide +kernel)];exact (h.qm i).sub (h'.qm i),by have:=h.len;have:=h'.len;rw[ptw_length];omega⟩
theorem zero_flat (m:Nat):Builtin.zeroCells (.agg #[.bool false,.slice none 0 0,.bool false,.slice none 0 0]:Value).cells m=(flat (List.replicate m E4.z)).toArray:=by
 rw[flat_zero]
 rfl
def TotV (W:World)(v:Value)(n:Nat)(f:Nat->Rat)(B:Nat):Prop :=
 (n=0/\v=.slice none 0 0)∨∃g cap fl,v=.slice (some ⟨g,0,none⟩) n cap/\B<=g/\Row W g fl/\fl.length=cap/\n<=cap/\cap<=9223372036854775807 /\
  (∀i,i<n->Qc W (fl.getD i E4.z).a (fl.getD i E4.z).b (fl.getD i E4.z).c (fl.getD i E4.z).d (f i))/\∀i,n<=i->fl.getD i E4.z=E4.z
theorem TotV.to {W V:World}{v:Value}{n:Nat}{f:Nat->Rat}{B:Nat}(h:TotV W v n f B)(hb:Below W.heap.size W V):TotV V v n f B:=by
 rcases h with h|⟨g,cap,fl,h1,h2,h3,h4,h5,h6,h7,h8⟩
 .exact .inl h
 .exact .inr ⟨g,cap,fl,h1,h2,h3.to hb,h4,h5,h6,fun i hi=>(h7 i hi).to hb,h8⟩
theorem TotV.congr {W:World}{v:Value}{n:Nat}{f f':Nat->Rat}{B:Nat}(h:TotV W v n f B)(hf:∀i,i<n->f i=f' i):TotV W v n f' B:=by
 rcases h with h|⟨g,cap,fl,h1,h2,h3,h4,h5,h6,h7,h8⟩
 .exact .inl h
 .exact .inr ⟨g,cap,fl,h1,h2,h3,h4,h5,h6,fun i hi=>by rw[<-hf i hi];exact h7 i hi,h8⟩
theorem Vi.qm {W:World}{A:Option Addr}{c:Nat}{es:List E4}{rs:List Rat}{k:Nat}(h:Vi W A c es rs k)(hk:0<k)(i:Nat):Qm k (rs.getD i 0):=(h.el i).qm hk
theorem vscale_v {w:World}{k1 k2 k3 k4:Value}{t:Rat}{m:Nat}{A:Option Addr}{c:Nat}{es:List E4}{rs:List Rat}{k:Nat}(hT:Qi w k1 k2 k3 k4 t m)(hA:Vi w A c es rs k)(hm:0<m)(hk:0<k)(hmk:m+k+2<=10000)(h1:rs.length<=4398046511104) :
  Calls Tryz.prog 20 #[.agg #[k1,k2,k3,k4],.slice A rs.length c] w (VR w (scaleQ t rs)):=by
 obtain ⟨W0,hW0⟩:∃W0,W0=w.alloc (.cells #[k1,k2,k3,k4] 26):=⟨_,rfl⟩
 have hbw:Below w.heap.size w W0:=by rw[hW0];exact (Below.refl _ _).alloc (Nat.le_refl _) _
 have HC:=Hd (vscaled_v (c':=0) (A':=none) (hT.to hbw) (hA.to hbw) (Vi.nil W0 (k:=1) (by decide)) hm hk (by decide) (by omega) h1 (by decide))
 have HW0:=Hd hW0
 have HB:=Hd hbw
 clear hA hT hW0 hbw
 go_enter Tryz.func20,Tryz.ntmps20
 go_wp2_with fail
 rw[<-HW0.out]
 refine HC.out.mono ?_
 rintro e V ⟨A1,c1,fl,rfl,hv,bb⟩
 go_wp2
 go_ret
 exact ⟨_,_,_,rfl,hv,HB.out.trans (bb.mono HB.out.size)⟩
def sumV (rs:Nat->List Rat):Nat->List Rat
 | 0=>[]
 | k+1=>ptw (fun r s=>r+s) (sumV rs k) (rs k)
structure SumIn (W:World)(P:Option Addr)(N:Nat)(As:Nat->Option Addr)(cs:Nat->Nat)(es:Nat->List E4)(rs:Nat->List Rat)(m:Nat):Prop where
 cell:∀k,k<N->∃b o,P=some ⟨b,o,none⟩/\W.cell? ⟨b,o+k,none⟩=some (.slice (As k) (rs k).length (cs k))
 vec:∀k,k<N->Vi W (As k) (cs k) (es k) (rs k) m
def midF (S a:Nat->Rat)(j:Nat)(i:Nat):Rat:=if i<j then S i+a i else S i
theorem TotV.sl {W:World}{v:Value}{n:Nat}{f:Nat->Rat}{B:Nat}(h:TotV W v n f B):∃A c,v=.slice A n c:=by
 rcases h with ⟨rfl,rfl⟩|⟨g,cap,fl,rfl,_⟩
 .exact ⟨_,_,rfl⟩
 .exact ⟨_,_,rfl⟩
theorem TotV.row {W:World}{A:Option Addr}{n c:Nat}{f:Nat->Rat}{B:Nat}(h:TotV W (.slice A n c) n f B)(hn:n≠0):∃g fl,A=some ⟨g,0,none⟩/\B<=g/\Row W g fl/\fl.length=c/\n<=c/\c<=9223372036854775807 /\
  (∀i,i<n->Qc W (fl.getD i E4.z).a (fl.getD i E4.z).b (fl.getD i E4.z).c (fl.getD i E4.z).d (f i))/\∀i,n<=i->fl.getD i E4.z=E4.z:=by
 rcases h with ⟨h0,_⟩|⟨g,cap,fl,h1,h2⟩
 .exact absurd h0 hn
 .cases h1
  exact ⟨g,fl,rfl,h2⟩
theorem TotV.set {W:World}{n j:Nat}{S a:Nat->Rat}{B g c:Nat}{fl:List E4}(hg:B<=g)(h1:Row W g fl)(h2:fl.length=c)(hn:n<=c)(hc:c<=9223372036854775807)
  (h3:∀i,i<n->Qc W (fl.getD i E4.z).a (fl.getD i E4.z).b (fl.getD i E4.z).c (fl.getD i E4.z).d (midF S a j i)) (h4:∀i,n<=i->fl.getD i E4.z=E4.z) (hj:j<n) {e:E4} (he:e.fq) (hq:Qc W e.a e.b e.c e.d (S j+a j)) :
  TotV (W.setRow g (flat (fl.set j e)).toArray) (.slice (some ⟨g,0,none⟩) n c) n (midF S a (j+1)) B:=by
 have kw:Kw W (W.setRow g (flat (fl.set j e)).toArray):=h1.kw
 refine .inr ⟨g,c,fl.set j e,rfl,hg,h1.app he,by simpa using h2,hn,hc,fun i hi=>?_,fun i hi=>?_⟩
 .by_cases hij:i=j
  .subst hij
   rw[show (fl.set i e).getD i E4.z=e from by simp[List.getD,show i<fl.length by omega],show midF S a (i+1) i=S i+a i from by unfold midF;rw[if_pos (by omega)]]
   exact kw.qc hq
  .rw[show (fl.set j e).getD i E4.z=fl.getD i E4.z from by simp[List.getD,List.getElem?_set,Ne.symm hij],show midF S a (j+1) i=midF S a j i from by unfold midF;have e:(i<j+1)=(i<j):=propext (by omega);simp only[e]]
   exact kw.qc (h3 i hi)
 .rw[show (fl.set j e).getD i E4.z=fl.getD i E4.z from by simp[List.getD,List.getElem?_set,show j≠i by omega]]
  exact h4 i hi
theorem TotV.vr {w W:World}{A:Option Addr}{c:Nat}{rs:List Rat}(h:TotV W (.slice A rs.length c) rs.length (fun i=>rs.getD i 0) w.heap.size)(hl:rs.length<=4398046511104)(hb:Below w.heap.size w W):VR w rs (.returned (.slice A rs.length c)) W:=by
 by_cases h0:rs.length=0
 .obtain rfl:rs=[]:=List.length_eq_zero_iff.1 h0
  rcases h with ⟨_,h⟩|⟨g,cap,fl,h1,h2,h3,h4,h5,h6,h7,h8⟩
  .cases h
   exact ⟨none,0,[],rfl,Vc.nil W (by decide),hb⟩
  .cases h1
   exact ⟨_,c,[],rfl,Vc.nil W h6,hb⟩
 .obtain ⟨g,fl,rfl,h2,h3,h4,h5,h6,h7,h8⟩:=h.row h0
  refine ⟨_,c,fl.take rs.length,rfl,⟨h3.rq _,by rw[List.length_take];omega,fun i=>?_,fun e he=>h3.fq e (List.mem_of_mem_take he),by rw[List.length_take];omega,h6⟩,hb⟩
  by_cases hi:i<rs.length
  .rw[show (fl.take rs.length).getD i E4.z=fl.getD i E4.z from by simp[List.getD,List.getElem?_take,hi]]
   exact h7 i hi
  .rw[getD_ge (l:=rs) (by omega),getD_ge (l:=fl.take rs.length) (by rw[List.length_take];omega)]
   exact ⟨Zc.zero _,Zc.zero _⟩
end Go.Proofs.YtiifpobhmnplaaaGreat

namespace Go.Proofs.YtiifpobhmnplaaaGreat
open Go.ChangeShapes Go.WideShapes Go.ChangeAt Go.RowKit Go.Joins
end Go.Proofs.YtiifpobhmnplaaaGreat

namespace Go.Proofs.YtiifpobhmnplaaaGreat
open Go.RowKit Go.Shelf
theorem vlong_o (P:Option Addr)(vs:List VA)(cap:Nat)(w:World)(hc:∀i (h:i<vs.length),∃b o,P=some ⟨b,o,none⟩/\b<w.heap.size/\w.cell? ⟨b,o+i,none⟩=some (.slice vs[i].A vs[i].es.length vs[i].c))(hv:∀v∈vs,VIn w v)(hl:vs.length<=9223372036854775807){r:Bool}(hr:vs.any (fun v=>lngV v.es)=r) :
  Calls Tryz.prog 11 #[.slice P vs.length cap] w fun e w'=>e=.returned (.bool r)/\Below w.heap.size w w':=by
 have HC:=Hd hc
 have HV:=Hd hv
 have HR:=Hd hr
 clear hc hv hr
 go_enter Tryz.func11,Tryz.ntmps11
 go_wp2
 go_loopw [3] (fun i wr=>∃k:Nat,i=.int .i64 k/\k<=vs.length/\(∀j (hj:j<vs.length),j<k->lngV vs[j].es=false)/\Below w.heap.size w wr) (fun i _=>vs.length-(intOf i).toNat)
 case atStart=>exact ⟨0,rfl,Nat.zero_le _,(fun j _ hj=>by omega),Below.refl _ _⟩
 case round =>
  obtain ⟨k,rfl,hk,ht,hb⟩:=hrel
  have HT:=Hd ht
  have HB:=Hd hb
  clear ht hb
  by_cases hlt:k<vs.length
  .have hki:(0:Int)<=(k:Int):=by omega
   have hki':(k:Int)<(vs.length:Int):=by omega
   obtain ⟨b,o,rfl,hbb,hc0⟩:=HC.out k hlt
   have hcell:=(HB.out.cell (p:=⟨b,o+k,none⟩) hbb).trans hc0
   have hk63:(k:Int)+1<=9223372036854775807:=by omega
   clear hc0 hbb
   have hvk:=(HV.out _ (List.getElem_mem hlt)).to HB.out
   have HN:Hid (∀b,lngV vs[k].es=b->lngV vs[k].es=b):=fun _ h=>h
   obtain ⟨v,hve⟩:∃v,vs[k]=v:=⟨_,rfl⟩
   have HVE:=Hd hve
   rw[hve]at hcell hvk
   have hsz:=Nat.le_trans hvk.cap hvk.c63
   have HVK:=Hd hvk
   have HLT:=Hd hlt
   clear hvk HN hve
   by_cases h20:20<v.es.length
   .have hd:decide ((20:Int)<(v.es.length:Int))=true:=decide_eq_true (by omega)
    have hany:Hid (vs.any (fun v=>lngV v.es)=true):=by
     show _=_
     rw[List.any_eq_true]
     exact ⟨vs[k]'HLT.out,List.getElem_mem _,by rw[HVE.out];unfold lngV;rw[decide_eq_true h20];rfl⟩
    clear h20
    go_wp2
    go_ret
    exact ⟨by rw[<-HR.out,hany.out];rfl,HB.out⟩
   .have hd:decide ((20:Int)<(v.es.length:Int))=false:=decide_eq_false (by omega)
    have hd2:¬(20:Int)<(v.es.length:Int):=by omega
    have H20:=Hd h20
    obtain ⟨r1,hr1⟩:∃r1,v.es.any lngE=r1:=⟨_,rfl⟩
    have HR1:=Hd hr1
    clear h20 hr1
    go_wp2_with fail
    refine (flong_v HVK.out (by have:=H20.out;omega) HR1.out).mono ?_
    rintro e V ⟨rfl,bb⟩
    have HB2:=hx HB bb
    clear bb
    cases r1 with
    | true =>
     have hany:Hid (vs.any (fun v=>lngV v.es)=true):=by
      show _=_
      rw[List.any_eq_true]
      exact ⟨vs[k]'HLT.out,List.getElem_mem _,by rw[HVE.out];unfold lngV;rw[HR1.out,Bool.or_true]⟩
     go_wp2
     go_ret
     exact ⟨by rw[<-HR.out,hany.out];rfl,HB2.out⟩
    | false =>
     go_wp2
     go_roundw
     case rel =>
      refine ⟨k+1,by simp,HLT.out,fun j hj hjk=>?_,HB2.out⟩
      by_cases hjk':j=k
      .subst hjk'
       rw[HVE.out]
       unfold lngV
       rw[HR1.out,decide_eq_false H20.out]
       rfl
      .exact HT.out j hj (by omega)
     case measure=>have:=HLT.out;simp[intOf];omega
  .obtain rfl:k=vs.length:=by omega
   go_wp2
   go_ret
   refine ⟨?_,HB.out⟩
   rw[<-HR.out,show vs.any (fun v=>lngV v.es)=false from by
    rw[List.any_eq_false]
    intro x hx
    obtain ⟨j,hj,rfl⟩:=List.mem_iff_getElem.1 hx
    simpa using HT.out j hj hj]
   rfl
def TotP (P:World->Nat->E4->Prop)(W:World)(v:Value)(n:Nat)(B:Nat):Prop :=
 (n=0/\v=.slice none 0 0)∨∃g cap fl,v=.slice (some ⟨g,0,none⟩) n cap/\B<=g/\Row W g fl/\fl.length=cap/\n<=cap/\cap<=9223372036854775807 /\
  (∀i,i<n->P W i (fl.getD i E4.z))/\∀i,n<=i->fl.getD i E4.z=E4.z
theorem tot_rowp {P:World->Nat->E4->Prop}{W:World}{g B n:Nat}{fl:List E4}(hg:B<=g)(h:Row W g fl)(hn:n<=fl.length)(hc:fl.length<=9223372036854775807)
  (hq:∀i,i<n->P W i (fl.getD i E4.z)) (hz:∀i,n<=i->fl.getD i E4.z=E4.z):TotP P W (.slice (some ⟨g,0,none⟩) n fl.length) n B :=
 .inr ⟨g,fl.length,fl,rfl,hg,h,rfl,hn,hc,hq,hz⟩
theorem grown_row {W:World}{n C:Nat}{es:List E4}{e:E4}(he:e.fq)(hes:∀x∈es,x.fq)(hl:es.length=n)(hC:n+1<=C) :
  (flat (es++e::List.replicate (C-(n+1)) E4.z)).toArray=((flat es++[e.a,e.b,e.c,e.d]).toArray++Builtin.zeroCells (.agg #[.bool false,.slice none 0 0,.bool false,.slice none 0 0]:Value).cells (C-(n+1))) /\
  Row (W.alloc (.cells (flat (es++e::List.replicate (C-(n+1)) E4.z)).toArray 26)) W.heap.size (es++e::List.replicate (C-(n+1)) E4.z)/\(es++e::List.replicate (C-(n+1)) E4.z).length=C:=by
 refine ⟨?_,⟨World.alloc_heap_new W _,fun x hx=>?_⟩,by simp;omega⟩
 .rw[zero_flat,flat_app]
  apply Array.ext'
  simp[flat]
 .rcases List.mem_append.1 hx with hx|hx
  .exact hes x hx
  .rcases List.mem_cons.1 hx with rfl|hx
   .exact he
   .rw[List.eq_of_mem_replicate hx];exact E4.z_fq
theorem papp {P:World->Nat->E4->Prop}(hP:∀{W V:World} {i:Nat} {e:E4},Kw W V->P W i e->P V i e){W:World}{v:Value}{n:Nat}{B:Nat}(h:TotP P W v n B)(hB:B<=W.heap.size)(hl:n+1<=1000000){e:E4}(he:e.fq)(hq:P W n e){a:Addr}{c:Nat}
  (h0:W.cell? (a.add 0)=some e.a) (h1:W.cell? (a.add 1)=some e.b) (h2:W.cell? (a.add 2)=some e.c) (h3:W.cell? (a.add 3)=some e.d) (ty:TypeId) :
  ∃v' W',(Builtin.append_ #[27,27] ty #[v,.slice (some a) 1 c]).run Tryz.prog W=.ok v' W'/\TotP P W' v' (n+1) B/\Below B W W':=by
 obtain ⟨i0,hi,hz0,hz1,hz2⟩:=info_parts infoQ
 have hnews:∀j u,[e.a,e.b,e.c,e.d][j]?=some u->W.cell? (a.add j)=some u:=fun j u hj=>by
  match j,hj with
  | 0,hj=>simp at hj;subst hj;exact h0
  | 1,hj=>simp at hj;subst hj;exact h1
  | 2,hj=>simp at hj;subst hj;exact h2
  | 3,hj=>simp at hj;subst hj;exact h3
 have last:∀(es:List E4) (k:Nat),es.length=n->∀i,n+1<=i->(es++e::List.replicate k E4.z).getD i E4.z=E4.z:=fun es k hes i hi=>by
  rw[show es++e::List.replicate k E4.z=(es++[e])++List.replicate k E4.z from by simp]
  simp only[List.getD,List.getElem?_append,List.length_append,List.length_cons,List.length_nil,hes,Nat.zero_add,show ¬i<n+1 by omega,if_false,List.getElem?_replicate]
  split<;>rfl
 have here:∀(es:List E4) (k:Nat),es.length=n->(es++e::List.replicate k E4.z).getD n E4.z=e:=fun es k hes=>by
  simp[List.getD,List.getElem?_append,hes]
 rcases h with ⟨rfl,rfl⟩|⟨g,cap,fl,rfl,hg,hr,rfl,hn,hc,hqs,hz⟩
 .have hrun:=run_append_nil (P:=Tryz.prog) (w:=W) 27 ty 26 i0 _ Tryz.underlying27 hi hz0 a 1 c [e.a,e.b,e.c,e.d] (by rw[hz1];rfl) hnews (by decide) (by decide) (by rw[hz2];decide)
  have hge:=grownCap_ge W 1 0 26
  have hle:=grownCap_le_maxLen W 1 0 26 (by unfold maxLen;omega)
  unfold maxLen at hle
  obtain ⟨C,hC⟩:∃C,grownCap W 1 0 26=C:=⟨_,rfl⟩
  rw[hC]at hrun hge hle
  obtain ⟨g1,g2,g3⟩:=grown_row (W:=W.drew) (n:=0) (C:=C) (es:=[]) he (fun x hx=>by cases hx) rfl hge
  have hrun':(Builtin.append_ #[27,27] ty #[.slice none 0 0,.slice (some a) 1 c]).run Tryz.prog W=.ok (.slice (some ⟨W.heap.size,0,none⟩) 1 C) (W.drew.alloc (.cells (flat ([]++e::List.replicate (C-(0+1)) E4.z)).toArray 26)):=by
   rw[g1]
   exact hrun
  have hbb:Below W.heap.size W (W.drew.alloc (.cells (flat ([]++e::List.replicate (C-(0+1)) E4.z)).toArray 26)):=((Below.refl _ W).drew).alloc (Nat.le_refl _) _
  refine ⟨_,_,hrun',?_,hbb.mono hB⟩
  have ht:=tot_rowp (P:=P) (n:=1) (B:=B) (g:=W.heap.size) hB g2 (by rw[g3];exact hge) (by rw[g3];omega) (fun i hi=>by
   obtain rfl:i=0:=by omega
   rw[here [] _ rfl]
   exact hP (Kw.of hbb) hq) (fun i hi=>last [] _ rfl i hi)
  rw[g3]at ht
  exact ht
 .by_cases hroom:n<fl.length
  .refine ⟨_,_,append_q hr hroom he h0 h1 h2 h3 (c:=c) ty,?_,below_setRow (Below.refl _ _) hg _⟩
   have kw:Kw W (W.setRow g (flat (fl.set n e)).toArray):=hr.kw
   have ht:=tot_rowp (P:=P) (n:=n+1) (B:=B) hg (hr.app (n:=n) he) (by rw[List.length_set];omega) (by rw[List.length_set];exact hc) (fun i hi=>by
    by_cases hin:i=n
    .subst hin
     rw[show (fl.set i e).getD i E4.z=e from by simp[List.getD,hroom]]
     exact hP kw hq
    .rw[show (fl.set n e).getD i E4.z=fl.getD i E4.z from by simp[List.getD,List.getElem?_set,Ne.symm hin]]
     exact hP kw (hqs i (by omega))) (fun i hi=>by
    rw[show (fl.set n e).getD i E4.z=fl.getD i E4.z from by simp[List.getD,List.getElem?_set,show n≠i by omega]]
    exact hz i (by omega))
   rwa [List.length_set]at ht
  .obtain rfl:n=fl.length:=by omega
   have holds:∀j u,(flat fl)[j]?=some u->W.cell? ((⟨g,0,none⟩:Addr).add j)=some u:=fun j u hj=>by
    unfold Addr.add
    by_cases hj0:j=0
    .subst hj0;simpa [World.cell?,hr.heap]using hj
    .simpa [hj0,World.cell?,hr.heap]using hj
   have hrun:=run_append_grow (P:=Tryz.prog) (w:=W) 27 ty 26 i0 _ Tryz.underlying27 hi hz0 ⟨g,0,none⟩ fl.length fl.length (flat fl) (by rw[hz1,flat_length]) holds a 1 c [e.a,e.b,e.c,e.d] (by rw[hz1];rfl) hnews (by omega) (by omega)
    (by rw[hz2];exact growslice_fits (by omega) (by omega))
   have hge:=grownCap_ge W (fl.length+1) fl.length 26
   have hle:=grownCap_le_maxLen W (fl.length+1) fl.length 26 (by unfold maxLen;omega)
   unfold maxLen at hle
   obtain ⟨C,hC⟩:∃C,grownCap W (fl.length+1) fl.length 26=C:=⟨_,rfl⟩
   rw[hC]at hrun hge hle
   obtain ⟨g1,g2,g3⟩:=grown_row (W:=W.drew) (n:=fl.length) (C:=C) (es:=fl) he hr.fq rfl hge
   have hrun':(Builtin.append_ #[27,27] ty #[.slice (some ⟨g,0,none⟩) fl.length fl.length,.slice (some a) 1 c]).run Tryz.prog W=.ok (.slice (some ⟨W.heap.size,0,none⟩) (fl.length+1) C) (W.drew.alloc (.cells (flat (fl++e::List.replicate (C-(fl.length+1)) E4.z)).toArray 26)):=by
    rw[g1,show (flat fl++[e.a,e.b,e.c,e.d]).toArray=(flat fl).toArray++[e.a,e.b,e.c,e.d].toArray from by simp]
    exact hrun
   have hbb:Below W.heap.size W (W.drew.alloc (.cells (flat (fl++e::List.replicate (C-(fl.length+1)) E4.z)).toArray 26)):=((Below.refl _ W).drew).alloc (Nat.le_refl _) _
   refine ⟨_,_,hrun',?_,hbb.mono hB⟩
   have ht:=tot_rowp (P:=P) (n:=fl.length+1) (B:=B) (g:=W.heap.size) hB g2 (by rw[g3];exact hge) (by rw[g3];omega) (fun i hi=>by
    by_cases hin:i=fl.length
    .subst hin
     rw[here fl _ rfl]
     exact hP (Kw.of hbb) hq
    .rw[show (fl++e::List.replicate (C-(fl.length+1)) E4.z).getD i E4.z=fl.getD i E4.z from by simp[List.getD,List.getElem?_append,show i<fl.length by omega]]
     exact hP (Kw.of hbb) (hqs i (by omega))) (fun i hi=>last fl _ rfl i hi)
   rw[g3]at ht
   exact ht
theorem TotP.mv {P:World->Nat->E4->Prop}(hP:∀{W V:World} {i:Nat} {e:E4},Kw W V->P W i e->P V i e){W V:World}{v:Value}{n B:Nat}(h:TotP P W v n B)(hb:Below W.heap.size W V):TotP P V v n B:=by
 rcases h with h|⟨g,cap,fl,h1,h2,h3,h4,h5,h6,h7,h8⟩
 .exact .inl h
 .exact .inr ⟨g,cap,fl,h1,h2,h3.to hb,h4,h5,h6,fun i hi=>hP (Kw.of hb) (h7 i hi),h8⟩
theorem TotP.sl {P:World->Nat->E4->Prop}{W:World}{v:Value}{n B:Nat}(h:TotP P W v n B):∃A c,v=.slice A n c:=by
 rcases h with ⟨rfl,rfl⟩|⟨g,cap,fl,rfl,_⟩
 .exact ⟨_,_,rfl⟩
 .exact ⟨_,_,rfl⟩
theorem qapp {W:World}{v:Value}{n:Nat}{f:Nat->Rat}{B:Nat}(h:TotV W v n f B)(hB:B<=W.heap.size)(hl:n+1<=1000000){e:E4}(he:e.fq)(hq:Qc W e.a e.b e.c e.d (f n)){a:Addr}{c:Nat}
  (h0:W.cell? (a.add 0)=some e.a) (h1:W.cell? (a.add 1)=some e.b) (h2:W.cell? (a.add 2)=some e.c) (h3:W.cell? (a.add 3)=some e.d) (ty:TypeId) :
  ∃v' W',(Builtin.append_ #[27,27] ty #[v,.slice (some a) 1 c]).run Tryz.prog W=.ok v' W'/\TotV W' v' (n+1) f B/\Below B W W' :=
 papp (P:=fun W i e=>Qc W e.a e.b e.c e.d (f i)) (fun k h=>k.qc h) h hB hl he hq h0 h1 h2 h3 ty
theorem rat_in {w:World}{b o n c k:Nat}{n1 n2:Bool}{A1 A2:Option Addr}{j1 m1 j2 m2:Nat}(hk:k<n)(hn:n<=9223372036854775807)(hb:b<w.heap.size)
  (h0:w.cell? ⟨b,o+k*4,none⟩=some (.bool n1)) (h1:w.cell? ⟨b,o+k*4+1,none⟩=some (.slice A1 j1 m1)) (h2:w.cell? ⟨b,o+k*4+2,none⟩=some (.bool n2)) (h3:w.cell? ⟨b,o+k*4+3,none⟩=some (.slice A2 j2 m2)) :
  Calls Tryz.prog 58 #[.slice (some ⟨b,o,none⟩) n c,.int .i64 k] w fun e w'=>e=.returned (.agg #[.bool n1,.slice A1 j1 m1,.bool n2,.slice A2 j2 m2])/\Below w.heap.size w w':=by
 have hbw:Below w.heap.size w (w.alloc (.cells #[.bool false,.slice none 0 0,.bool false,.slice none 0 0] 26)):=(Below.refl _ _).alloc (Nat.le_refl _) _
 have f0:=(hbw.cell (p:=⟨b,o+k*4,none⟩) hb).trans h0
 have f1:=(hbw.cell (p:=⟨b,o+k*4+1,none⟩) hb).trans h1
 have f2:=(hbw.cell (p:=⟨b,o+k*4+2,none⟩) hb).trans h2
 have f3:=(hbw.cell (p:=⟨b,o+k*4+3,none⟩) hb).trans h3
 have hk0:(k:Int)<(n:Int):=by omega
 have hk1:(0:Int)<=(k:Int):=by omega
 clear hbw h0 h1 h2 h3 hb
 go_enter Tryz.func58,Tryz.ntmps58
 go_wp2
 refine bodyPost_ret (v:=.agg #[.bool n1,.slice A1 j1 m1,.bool n2,.slice A2 j2 m2]) (by simp[results,Tryz.f58,go_sem]) rfl ?_
 exact ⟨rfl,(Below.refl _ _).alloc (Nat.le_refl _) _⟩
theorem rat_out {w:World}{A:Option Addr}{n c k:Nat}(hk:¬k<n) :
  Calls Tryz.prog 58 #[.slice A n c,.int .i64 k] w fun e w'=>e=.returned (.agg #[.bool false,.slice none 0 0,.bool false,.slice none 0 0])/\Below w.heap.size w w':=by
 have hk0:¬(k:Int)<(n:Int):=by omega
 have hk1:(0:Int)<=(k:Int):=by omega
 clear hk
 go_enter Tryz.func58,Tryz.ntmps58
 go_wp2
 refine bodyPost_ret (v:=.agg #[.bool false,.slice none 0 0,.bool false,.slice none 0 0]) (by simp[results,Tryz.f58,go_sem]) rfl ?_
 exact ⟨rfl,(Below.refl _ _).alloc (Nat.le_refl _) _⟩
theorem rat_v {w:World}{B:Nat}{A:Option Addr}{c k:Nat}{es:List E4}(h:Rq w B A es)(hq:∀e∈es,e.fq)(hl:es.length<=9223372036854775807) :
  Calls Tryz.prog 58 #[.slice A es.length c,.int .i64 k] w fun e w'=>e=.returned (.agg #[(es.getD k E4.z).a,(es.getD k E4.z).b,(es.getD k E4.z).c,(es.getD k E4.z).d])/\Below w.heap.size w w':=by
 by_cases hk:k<es.length
 .obtain ⟨b,o,rfl,hb,h0,h1,h2,h3⟩:=h k hk
  rw[getD_at' hk]
  have hf:=hq _ (List.getElem_mem hk)
  generalize es[k]=e at h0 h1 h2 h3 hf
  obtain ⟨e1,e2,e3,e4⟩:=e
  obtain ⟨⟨n1,A1,k1,c1,g1,g2⟩,⟨n2,A2,k2,c2,g3,g4⟩⟩:=hf
  dsimp only at g1 g2 g3 g4 h0 h1 h2 h3
  subst g1 g2 g3 g4
  exact rat_in hk hl (World.block_lt_of_cell? w _ h0) h0 h1 h2 h3
 .rw[getD_out hk]
  exact rat_out hk
theorem op_append_run {P:Program}{d:Option Tmp}{ty:TypeId}{pos:String}{after:Array Edge}{guard:Option (Nat×Bool)}{a:Act}{w w':World}{v y v':Value}{K:Act->World->Prop}{Q:Exit->Act->World->Prop}(s x:Operand)(t u:TypeId)
  (hs:a.eval s=v) (hx:a.eval x=y) (hrun:(Builtin.append_ #[t,u] ty #[v,y]).run P w=.ok v' w') (hK:K (a.put d v') w') :
  Oper.wp P ⟨d,.call { callee:=.builtin .append,args:=#[s,x],argTypes:=#[t,u] },ty,pos,after,guard⟩ a w K Q:=by
 unfold Oper.wp execOp
 simp only[resolve,invoke,builtin,Sem.run_bind,Sem.run_pure,Result.andThen_ok,List.map_toArray,List.map_cons,List.map_nil,hs,hx,hrun]
 exact hK
theorem rcomb_v {w:World}{t1 t2 t3 t4:Value}{t:Rat}{m:Nat}{A A':Option Addr}{c c':Nat}{es fs:List E4}{rs ss:List Rat}{k l:Nat}(hT:Qi w t1 t2 t3 t4 t m)(hA:Vi w A c es rs k)(hB:Vi w A' c' fs ss l)(hm0:0<m)(hk0:0<k)(hl0:0<l)
  (hN:m+k+l+1<=10000) (h1:rs.length+1<=1000000) (h2:ss.length+1<=1000000) :
  Calls Tryz.prog 23 #[.agg #[t1,t2,t3,t4],.slice A rs.length c,.slice A' ss.length c'] w (VR w (ptw (fun r s=>t*r+s) rs ss)):=by
 have mM:∀i,Qm (m+k) (t*rs.getD i 0):=fun i=>(hT.qm hm0).mul ((hA.el i).qm hk0)
 have HX:=Hd (fun (V:World) (i:Nat) (hV:Below w.heap.size w V)=>rat_v (c:=c) (k:=i) (hA.row.grow hV) hA.fq (by have:=hA.len;omega))
 have HY:=Hd (fun (V:World) (i:Nat) (hV:Below w.heap.size w V)=>rat_v (c:=c') (k:=i) (hB.row.grow hV) hB.fq (by have:=hB.len;omega))
 have HM:=Hd (fun (V:World) (i:Nat) (hV:Below w.heap.size w V)=>rmul_q (hT.to hV) ((hA.el i).to hV) hm0 hk0 (by omega))
 have HA:=Hd (fun (V:World) (i:Nat) (hV:Below w.heap.size w V) (x1 x2 x3 x4:Value) (q:Qc V x1 x2 x3 x4 (t*rs.getD i 0))=>radd_q (q.qi (mM i) (by omega)) ((hB.el i).to hV) (by omega) hl0 (by omega))
 obtain ⟨f,hf⟩:∃f:Nat->Rat,Hid (f=fun i=>(ptw (fun r s=>t*r+s) rs ss).getD i 0):=⟨_,rfl⟩
 have hfi:Hid (∀i,t*rs.getD i 0+ss.getD i 0=f i):=fun i=>by rw[hf.out];exact (ptw_getD (F:=fun r s=>t*r+s) (by rw[Rat.mul_zero,Rat.add_zero]) rs ss i).symm
 rw[hA.len]at HX
 rw[hB.len]at HY
 obtain ⟨L,hL⟩:∃L,rs.length=L:=⟨_,rfl⟩
 obtain ⟨M,hM⟩:∃M,ss.length=M:=⟨_,rfl⟩
 have HLN:Hid ((ptw (fun r s=>t*r+s) rs ss).length=max L M):=by show _=_;rw[ptw_length,hL,hM]
 rw[hL]at HX h1 ⊢
 rw[hM]at HY h2 ⊢
 obtain ⟨W0,hW0⟩:∃W0,W0=w.alloc (.cells #[t1,t2,t3,t4] 26):=⟨_,rfl⟩
 have hbw:Below w.heap.size w W0:=by rw[hW0];exact (Below.refl _ _).alloc (Nat.le_refl _) _
 have tT:Four W0 w.heap.size t1 t2 t3 t4:=by rw[hW0];exact Four.new w _ _ _ _ _
 have HT:=Hd tT
 have HW:=Hd hbw
 have HW0:=Hd hW0
 clear hT hA hB hm0 hk0 hl0 hN hL hM mM tT hbw hW0
 go_enter Tryz.func23,Tryz.ntmps23
 go_wp2
 rw[<-HW0.out]
 clear HW0
 go_loopw [7,8] (fun v i wr=>∃(k:Nat) (A1:Option Addr) (c1:Nat),v=.slice A1 k c1/\i=.int .i64 k/\k<=max L M/\Hid (TotV wr (.slice A1 k c1) k f W0.heap.size)/\Below W0.heap.size W0 wr) (fun _ i _=>max L M-(intOf i).toNat)
 case atStart=>exact ⟨0,none,0,rfl,rfl,Nat.zero_le _,.inl ⟨rfl,rfl⟩,Below.refl _ _⟩
 case round =>
  obtain ⟨j,A1,c1,rfl,rfl,hj,hT,hb⟩:=hrel
  have hj0:(0:Int)<=(j:Int):=by omega
  have hj3:(j:Int)+1<=9223372036854775807:=by omega
  have HBB:=Hd hb
  by_cases hx:j<L
  .have hx1:(j:Int)<(L:Int):=by omega
   have HLT:Hid (j<max L M/\j+1<=1000000):=by show _/\_;omega
   clear hb hx hj
   go_wp2_with fail
   refine wp_region_plan (S:=fun w'=>Below W0.heap.size W0 w') [(0,true),(1,true),(2,true),(3,true),(6,true),(7,true),(4,false),(5,false),(8,false),(9,false),(10,false),(11,false),(12,true)] (by kernel_rfl) (by kernel_rfl) HBB.out.drew ?_
   refine plan_take (v:=?_) rfl (by rfl) ?_ ?_;rotate_left;(focus (intro w' _;go_simp;try with_reducible rfl));simp only[Act.put,List.setIfInBounds_toArray,List.set_cons_zero,List.set_cons_succ]
   refine plan_take rfl (by rfl) (fun w' hS=>load_four (by rfl) (HT.out.to hS)) ?_;simp only[Act.put,List.setIfInBounds_toArray,List.set_cons_zero,List.set_cons_succ]
   iterate 4 (refine plan_take (v:=?_) rfl (by rfl) ?_ ?_;rotate_left;(focus (intro w' _;go_simp;try with_reducible rfl));simp only[Act.put,List.setIfInBounds_toArray,List.set_cons_zero,List.set_cons_succ])
   have hb:=HBB.out.drew
   have hT1:=hT.out.to (Below.refl wr.heap.size wr).drew
   refine plan_call rfl (by rfl) (fun K hK=>?_)
   go_simp
   refine (HX.out _ j (HW.out.trans (hb.mono HW.out.size))).mono ?_
   rintro e V ⟨rfl,bb⟩
   replace hb:=bx hb bb
   replace hT1:=hT1.to bb
   refine hK.out _ _ hb ?_
   clear hK K bb
   refine plan_call rfl (by rfl) (fun K hK=>?_)
   go_simp
   refine (HM.out _ j (HW.out.trans (hb.mono HW.out.size))).mono ?_
   rintro e V ⟨y1,y2,y3,y4,rfl,q,bb⟩
   replace hb:=bx hb bb
   replace hT1:=hT1.to bb
   refine hK.out _ _ hb ?_
   clear hK K bb
   refine plan_call rfl (by rfl) (fun K hK=>?_)
   go_simp
   refine (HY.out _ j (HW.out.trans (hb.mono HW.out.size))).mono ?_
   rintro e V ⟨rfl,bb⟩
   replace hb:=bx hb bb
   replace hT1:=hT1.to bb
   replace q:=q.to bb
   refine hK.out _ _ hb ?_
   clear hK K bb
   refine plan_call rfl (by rfl) (fun K hK=>?_)
   go_simp
   refine (HA.out _ j (HW.out.trans (hb.mono HW.out.size)) _ _ _ _ q).mono ?_
   rintro e V ⟨x1,x2,x3,x4,rfl,q2,bb⟩
   replace hb:=bx hb bb
   replace hT1:=hT1.to bb
   refine hK.out _ _ hb ?_
   clear hK K bb
   clear q
   rw[hfi.out]at q2
   have bb2:Below V.heap.size V (V.alloc (.cells #[x1,x2,x3,x4] 26)):=(Below.refl _ _).alloc (Nat.le_refl _) _
   have c5:=(Hp.new V #[x1,x2,x3,x4] 26).four
   have hb2:=bx hb bb2
   obtain ⟨v',X,hrun,hT2,hbel⟩:=qapp (hT1.to bb2) hb2.size HLT.out.2 (e:=⟨x1,x2,x3,x4⟩) q2.fq (q2.to bb2) (a:=⟨V.heap.size,0,none⟩) (c:=1) c5.c0 c5.c1 c5.c2 c5.c3 27
   obtain ⟨A2,c2,rfl⟩:=hT2.sl
   have HE:Hid (TotV X (.slice A2 (j+1) c2) (j+1) f W0.heap.size/\Below W0.heap.size W0 X):=⟨hT2,hb2.trans hbel⟩
   refine plan_call rfl (by rfl) (fun K hK=>?_)
   go_simp
   refine hK.out _ _ hb2 ?_
   clear hK K
   refine plan_call rfl (by rfl) (fun K hK=>?_)
   refine op_append_run (.tmp 21) (.tmp 31) _ _ (by rfl) (by rfl) hrun ?_
   refine hK.out _ _ HE.out.2 ?_
   clear hK K hrun hT2 hbel hb2 c5 bb2 q2 hb hT1
   refine plan_take (v:=?_) rfl (by rfl) ?_ ?_;rotate_left;(focus (intro w' _;go_simp;try with_reducible rfl));simp only[Act.put,List.setIfInBounds_toArray,List.set_cons_zero,List.set_cons_succ]
   refine plan_done ?_
   go_wp2
   go_roundw
   case rel=>exact ⟨j+1,A2,c2,rfl,by simp,HLT.out.1,HE.out.1,HE.out.2⟩
   case measure=>have:=HLT.out;simp[intOf];omega
  .have hx1:¬(j:Int)<(L:Int):=by omega
   by_cases hy:j<M
   .have hy1:(j:Int)<(M:Int):=by omega
    have HLT:Hid (j<max L M/\j+1<=1000000):=by show _/\_;omega
    clear hb hx hy hj
    go_wp2_with fail
    refine wp_region_plan (S:=fun w'=>Below W0.heap.size W0 w') [(0,true),(1,true),(2,true),(3,true),(6,true),(7,true),(4,false),(5,false),(8,false),(9,false),(10,false),(11,false),(12,true)] (by kernel_rfl) (by kernel_rfl) HBB.out.drew ?_
    refine plan_take (v:=?_) rfl (by rfl) ?_ ?_;rotate_left;(focus (intro w' _;go_simp;try with_reducible rfl));simp only[Act.put,List.setIfInBounds_toArray,List.set_cons_zero,List.set_cons_succ]
    refine plan_take rfl (by rfl) (fun w' hS=>load_four (by rfl) (HT.out.to hS)) ?_;simp only[Act.put,List.setIfInBounds_toArray,List.set_cons_zero,List.set_cons_succ]
    iterate 4 (refine plan_take (v:=?_) rfl (by rfl) ?_ ?_;rotate_left;(focus (intro w' _;go_simp;try with_reducible rfl));simp only[Act.put,List.setIfInBounds_toArray,List.set_cons_zero,List.set_cons_succ])
    have hb:=HBB.out.drew
    have hT1:=hT.out.to (Below.refl wr.heap.size wr).drew
    refine plan_call rfl (by rfl) (fun K hK=>?_)
    go_simp
    refine (HX.out _ j (HW.out.trans (hb.mono HW.out.size))).mono ?_
    rintro e V ⟨rfl,bb⟩
    replace hb:=bx hb bb
    replace hT1:=hT1.to bb
    refine hK.out _ _ hb ?_
    clear hK K bb
    refine plan_call rfl (by rfl) (fun K hK=>?_)
    go_simp
    refine (HM.out _ j (HW.out.trans (hb.mono HW.out.size))).mono ?_
    rintro e V ⟨y1,y2,y3,y4,rfl,q,bb⟩
    replace hb:=bx hb bb
    replace hT1:=hT1.to bb
    refine hK.out _ _ hb ?_
    clear hK K bb
    refine plan_call rfl (by rfl) (fun K hK=>?_)
    go_simp
    refine (HY.out _ j (HW.out.trans (hb.mono HW.out.size))).mono ?_
    rintro e V ⟨rfl,bb⟩
    replace hb:=bx hb bb
    replace hT1:=hT1.to bb
    replace q:=q.to bb
    refine hK.out _ _ hb ?_
    clear hK K bb
    refine plan_call rfl (by rfl) (fun K hK=>?_)
    go_simp
    refine (HA.out _ j (HW.out.trans (hb.mono HW.out.size)) _ _ _ _ q).mono ?_
    rintro e V ⟨x1,x2,x3,x4,rfl,q2,bb⟩
    replace hb:=bx hb bb
    replace hT1:=hT1.to bb
    refine hK.out _ _ hb ?_
    clear hK K bb
    clear q
    rw[hfi.out]at q2
    have bb2:Below V.heap.size V (V.alloc (.cells #[x1,x2,x3,x4] 26)):=(Below.refl _ _).alloc (Nat.le_refl _) _
    have c5:=(Hp.new V #[x1,x2,x3,x4] 26).four
    have hb2:=bx hb bb2
    obtain ⟨v',X,hrun,hT2,hbel⟩:=qapp (hT1.to bb2) hb2.size HLT.out.2 (e:=⟨x1,x2,x3,x4⟩) q2.fq (q2.to bb2) (a:=⟨V.heap.size,0,none⟩) (c:=1) c5.c0 c5.c1 c5.c2 c5.c3 27
    obtain ⟨A2,c2,rfl⟩:=hT2.sl
    have HE:Hid (TotV X (.slice A2 (j+1) c2) (j+1) f W0.heap.size/\Below W0.heap.size W0 X):=⟨hT2,hb2.trans hbel⟩
    refine plan_call rfl (by rfl) (fun K hK=>?_)
    go_simp
    refine hK.out _ _ hb2 ?_
    clear hK K
    refine plan_call rfl (by rfl) (fun K hK=>?_)
    refine op_append_run (.tmp 21) (.tmp 31) _ _ (by rfl) (by rfl) hrun ?_
    refine hK.out _ _ HE.out.2 ?_
    clear hK K hrun hT2 hbel hb2 c5 bb2 q2 hb hT1
    refine plan_take (v:=?_) rfl (by rfl) ?_ ?_;rotate_left;(focus (intro w' _;go_simp;try with_reducible rfl));simp only[Act.put,List.setIfInBounds_toArray,List.set_cons_zero,List.set_cons_succ]
    refine plan_done ?_
    go_wp2
    go_roundw
    case rel=>exact ⟨j+1,A2,c2,rfl,by simp,HLT.out.1,HE.out.1,HE.out.2⟩
    case measure=>have:=HLT.out;simp[intOf];omega
   .have hy1:¬(j:Int)<(M:Int):=by omega
    have hjM:j=max L M:=by omega
    have FIN:Hid (VR w (ptw (fun r s=>t*r+s) rs ss) (.returned (.slice A1 j c1)) wr):=by
     have h3:=hT.out
     have h4:(ptw (fun r s=>t*r+s) rs ss).length=j:=by rw[HLN.out,hjM]
     rw[hf.out]at h3
     subst h4
     obtain ⟨A9,c9,e9,r1,r2,r3⟩:=h3.vr (by omega) hb
     exact ⟨A9,c9,e9,r1,r2,HW.out.trans (r3.mono HW.out.size)⟩
    clear hb hx hy hj hjM hT
    go_wp2
    go_ret
    exact FIN.out
theorem qm_1 : Qm 1 ((1:Int):Rat):=by refine ⟨?_,?_⟩<;>(unfold Sm;decide)
theorem qm_m1 : Qm 1 ((-1:Int):Rat):=by refine ⟨?_,?_⟩<;>(unfold Sm;decide)
theorem ptw_congr {F G:Rat->Rat->Rat}(h:∀r s,F r s=G r s)(rs ss:List Rat):ptw F rs ss=ptw G rs ss:=by
 unfold ptw
 simp only[h]
theorem raddv_v {w:World}{A A':Option Addr}{c c':Nat}{es fs:List E4}{rs ss:List Rat}{k l:Nat}(hA:Vi w A c es rs k)(hB:Vi w A' c' fs ss l)(hk:0<k)(hl:0<l)(hkl:1+k+l+1<=10000)(h1:rs.length+1<=1000000)(h2:ss.length+1<=1000000) :
  Calls Tryz.prog 17 #[.slice A rs.length c,.slice A' ss.length c'] w (VR w (ptw (fun r s=>r+s) rs ss)):=by
 have HC:=Hd (fun (V:World) (hV:Below w.heap.size w V) (x1 x2 x3 x4:Value) (q:Qc V x1 x2 x3 x4 ((1:Int):Rat))=>(rcomb_v (c:=c) (c':=c') (q.qi qm_1 (by decide)) (hA.to hV) (hB.to hV) (by decide) hk hl hkl h1 h2))
 rw[ptw_congr (F:=fun r s=>((1:Int):Rat)*r+s) (G:=fun r s=>r+s) (fun r s=>by rw[show ((1:Int):Rat)=1 from rfl,Rat.one_mul])]at HC
 clear hA hB hk hl hkl h1 h2
 go_enter Tryz.func17,Tryz.ntmps17
 go_wp2_with fail
 refine (rint_q 1 (by omega) (by omega) w).mono ?_
 rintro e V ⟨x1,x2,x3,x4,rfl,q,bb⟩
 have HD:=Hd (HC.out V bb x1 x2 x3 x4 q)
 have HB:=Hd bb
 clear q bb HC
 go_wp2_with fail
 refine HD.out.mono ?_
 rintro e X ⟨A1,c1,fl,rfl,hv,b2⟩
 have HE:=hx HB b2
 clear b2
 go_wp2
 go_ret
 exact ⟨A1,c1,fl,rfl,hv,HE.out⟩
theorem rsubv_v {w:World}{A A':Option Addr}{c c':Nat}{es fs:List E4}{rs ss:List Rat}{k l:Nat}(hA:Vi w A c es rs k)(hB:Vi w A' c' fs ss l)(hk:0<k)(hl:0<l)(hkl:1+l+k+1<=10000)(h1:rs.length+1<=1000000)(h2:ss.length+1<=1000000) :
  Calls Tryz.prog 19 #[.slice A rs.length c,.slice A' ss.length c'] w (VR w (ptw (fun r s=>r-s) rs ss)):=by
 have HC:=Hd (fun (V:World) (hV:Below w.heap.size w V) (x1 x2 x3 x4:Value) (q:Qc V x1 x2 x3 x4 ((-1:Int):Rat))=>rcomb_v (c:=c') (c':=c) (q.qi qm_m1 (by decide)) (hB.to hV) (hA.to hV) (by decide) hl hk hkl h2 h1)
 have he:ptw (fun r s=>r-s) rs ss=ptw (fun r s=>((-1:Int):Rat)*r+s) ss rs:=by
  unfold ptw
  rw[Nat.max_comm]
  refine List.map_congr_left fun i _=>?_
  show rs.getD i 0-ss.getD i 0=((-1:Int):Rat)*ss.getD i 0+rs.getD i 0
  rw[show ((-1:Int):Rat)=-1 from rfl,Rat.neg_mul,Rat.one_mul,Rat.sub_eq_add_neg,Rat.add_comm]
 rw[<-he]at HC
 clear hA hB hk hl hkl h1 h2 he
 go_enter Tryz.func19,Tryz.ntmps19
 go_wp2_with fail
 refine (rint_q (-1) (by omega) (by omega) w).mono ?_
 rintro e V ⟨x1,x2,x3,x4,rfl,q,bb⟩
 have HD:=Hd (HC.out V bb x1 x2 x3 x4 q)
 have HB:=Hd bb
 clear q bb HC
 go_wp2_with fail
 refine HD.out.mono ?_
 rintro e X ⟨A1,c1,fl,rfl,hv,b2⟩
 have HE:=hx HB b2
 clear b2
 go_wp2
 go_ret
 exact ⟨A1,c1,fl,rfl,hv,HE.out⟩
theorem rscale_v {w:World}{t1 t2 t3 t4:Value}{t:Rat}{m:Nat}{A:Option Addr}{c:Nat}{es:List E4}{rs:List Rat}{k:Nat}(hT:Qi w t1 t2 t3 t4 t m)(hA:Vi w A c es rs k)(hm0:0<m)(hk0:0<k)(hN:m+k+1+1<=10000)(h1:rs.length+1<=1000000) :
  Calls Tryz.prog 21 #[.agg #[t1,t2,t3,t4],.slice A rs.length c] w (VR w (scaleQ t rs)):=by
 obtain ⟨W0,hW0⟩:∃W0,W0=w.alloc (.cells #[t1,t2,t3,t4] 26):=⟨_,rfl⟩
 have hbw:Below w.heap.size w W0:=by rw[hW0];exact (Below.refl _ _).alloc (Nat.le_refl _) _
 have tT:Four W0 w.heap.size t1 t2 t3 t4:=by rw[hW0];exact Four.new w _ _ _ _ _
 have HC:=Hd (rcomb_v (c:=c) (c':=0) (hT.to hbw) (hA.to hbw) (Vi.nil (A:=none) (c:=0) W0 (k:=1) (by decide)) hm0 hk0 (by decide) (by omega) h1 (by decide))
 have HB:=Hd hbw
 have HW0:=Hd hW0
 clear hT hA hm0 hk0 hN h1 hbw hW0
 go_enter Tryz.func21,Tryz.ntmps21
 go_wp2_with fail
 rw[<-HW0.out]
 clear HW0
 have k0:=tT.c0
 have k1:=tT.c1
 have k2:=tT.c2
 have k3:=tT.c3
 clear tT
 go_wp2_with fail
 refine HC.out.mono ?_
 rintro e X ⟨A1,c1,fl,rfl,hv,b2⟩
 have HE:=hx HB b2
 clear b2
 go_wp2
 go_ret
 exact ⟨A1,c1,fl,rfl,hv,HE.out⟩
end Go.Proofs.YtiifpobhmnplaaaGreat
