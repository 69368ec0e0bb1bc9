/- Parts: 8. -/
import Derived.Test.YtglhdielkkhefaaGreatMs5
import Derived.Test.YtglhdielkkhefaaGreatMs15
import Derived.Test.YtglhdielkkhefaaGreatMs19
import Derived.Test.YtglhdielkkhefaaGreatMs20
import Derived.Test.YtglhdielkkhefaaGreatMs22
import Derived.Test.YtglhdielkkhefaaGreatMs24
import Derived.Below
import Derived.ChangeOld
import Derived.Deep.Slices
import Derived.Lib.SmallJoins
import Derived.OpenShut
import Derived.ProofKit
import Derived.ShutString
import Derived.WalkKit
set_option linter.unusedVariables false
set_option linter.unusedSimpArgs false
set_option maxRecDepth 100000
set_option maxHeartbeats 40000000

namespace Go.Proofs.YtglhdielkkhefaaGreat
open Go.ChangeShapes Go.WideShapes Go.ChangeAt Go.RowKit Go.Joins
theorem cellsZ : Tryz.prog.cellsOf 30=2:=by kernel_rfl
theorem cellsU : Tryz.prog.cellsOf 89=1:=by kernel_rfl
theorem laidOut : laidOutB Tryz.prog=true:=by kernel_rfl
theorem own : ownKnob Tryz.prog.godebug=none:=by kernel_rfl
theorem nats_of {zs:List Int}(h:∀n∈zs,(Lit.int .u32 n).wf=true):∃xs:List Nat,zs=xs.map (fun n:Nat=>(n:Int))/\Dg b32 xs:=by
 induction zs with
 | nil=>exact ⟨[],rfl,fun d hd=>by cases hd⟩
 | cons z zs ih =>
  obtain ⟨xs,rfl,hx⟩:=ih (fun n hn=>h n (List.mem_cons_of_mem _ hn))
  have hz:=h z List.mem_cons_self
  have hz':=bounds_u32 hz
  exact ⟨z.toNat::xs,by simp;omega,Dg.cons (by unfold b32;omega) hx⟩
theorem cellsB : Tryz.prog.cellsOf 4=1:=by kernel_rfl
theorem cellsS : Tryz.prog.cellsOf 28=1:=by kernel_rfl
theorem cellsQ : Tryz.prog.cellsOf 32=4:=by kernel_rfl
def Zx2 (W:World)(x y:Value):Prop:=∃n A c xs,x=.bool n/\y=.slice A xs.length c/\Rd .u32 W W.heap.size A xs/\Dg b32 xs/\xs.length<=c/\c<=9223372036854775807
theorem trod_z {H:Type}{enc:TypeId×Value->H}{W:World}{base:Nat}{spare:Nat->Bool}{held:Bool}{fuel:Nat}{c0 c1:Value}{x:DataW H×List MemPlace}
  (hs:∀b,spare b=true) (h:DataW.trod enc Tryz.prog W base spare held fuel 30 [c0,c1]=some x):Zx2 W c0 c1:=by
 obtain ⟨y0,y1,m,hx,_,h0,h1⟩:=trod_struct2 (f0:=_) (f1:=_) (show Tryz.prog.underlying 30=_ from Tryz.underlying30) h
 replace h0:DataW.trod enc Tryz.prog W base spare held m 4 [c0]=some y0:=by
  rw[show Tryz.prog.cellsOf _=1 from cellsB]at h0
  simpa using h0
 replace h1:DataW.trod enc Tryz.prog W base spare held m 28 [c1]=some y1:=by
  rw[show Tryz.prog.cellsOf _=1 from cellsS]at h1
  simpa using h1
 obtain ⟨n,hc0,_⟩:=DataW.trod_bool Tryz.underlying4 h0
 obtain rfl:c0=.bool n:=by simpa using hc0
 rcases open_ints Tryz.underlying28 Tryz.underlying89 cellsU h1 with ⟨hcs,_⟩|⟨x,l,c,zs,hcs,_,hl,hm,hz,_,hcell,hwz⟩
 .obtain rfl:c1=.slice none 0 0:=by simpa using hcs
  exact ⟨n,none,0,[],rfl,rfl,Rd.nil,Dg.nil,Nat.le_refl _,by decide⟩
 .obtain rfl:c1=.slice (some x) l c:=by simpa using hcs
  rw[hs,if_pos rfl]at hz
  obtain ⟨xs,rfl,hx⟩:=nats_of hwz
  rw[List.length_map]at hz
  have hlen:(xs.take l).length=l:=by rw[List.length_take];omega
  refine ⟨n,some x,c,xs.take l,rfl,by rw[hlen],?_,hx.take l,by rw[hlen];exact hl,Nat.le_trans hm (by decide)⟩
  intro k hk
  rw[hlen]at hk
  obtain ⟨b,off,rfl,hc⟩:=Go.ints_at hcell (by rw[List.length_map];omega)
  have hck:=hc k (by rw[List.length_map];omega)
  refine ⟨b,off,rfl,World.block_lt_of_cell? W _ hck,?_⟩
  rw[hck]
  have hk':k<xs.length:=by omega
  simp[hk']
theorem trod_q {H:Type}{enc:TypeId×Value->H}{W:World}{base:Nat}{spare:Nat->Bool}{held:Bool}{fuel:Nat}{c0 c1 c2 c3:Value}{x:DataW H×List MemPlace}
  (hs:∀b,spare b=true) (h:DataW.trod enc Tryz.prog W base spare held fuel 32 [c0,c1,c2,c3]=some x):Zx2 W c0 c1/\Zx2 W c2 c3:=by
 obtain ⟨y0,y1,m,hx,_,h0,h1⟩:=trod_struct2 (f0:=_) (f1:=_) (show Tryz.prog.underlying 32=_ from Tryz.underlying32) h
 replace h0:DataW.trod enc Tryz.prog W base spare held m 30 [c0,c1]=some y0:=by
  rw[show Tryz.prog.cellsOf _=2 from cellsZ]at h0
  simpa using h0
 replace h1:DataW.trod enc Tryz.prog W base spare held m 30 [c2,c3]=some y1:=by
  rw[show Tryz.prog.cellsOf _=2 from cellsZ]at h1
  simpa using h1
 exact ⟨trod_z hs h0,trod_z hs h1⟩
end Go.Proofs.YtglhdielkkhefaaGreat

namespace Go.Proofs.YtglhdielkkhefaaGreat
open Go.RowKit Go.Shelf
theorem flong_o (g o:Nat)(A:Option Addr)(ls:List (Nat×Nat))(cap:Nat)(w:World)(hA:∀(k:Nat),k<ls.length->A=some ⟨g,o,none⟩/\g<w.heap.size)
  (h:∀(k:Nat) (hk:k<ls.length),∃n1 A1 c1 n2 A2 c2,w.cell? ⟨g,o+k*4,none⟩=some (.bool n1)/\w.cell? ⟨g,o+k*4+1,none⟩=some (.slice A1 ls[k].1 c1)/\w.cell? ⟨g,o+k*4+2,none⟩=some (.bool n2)/\w.cell? ⟨g,o+k*4+3,none⟩=some (.slice A2 ls[k].2 c2))
  (hs:∀(k:Nat) (hk:k<ls.length),ls[k].1<=9223372036854775807/\ls[k].2<=9223372036854775807) (hl:ls.length<=1000) {r:Bool} (hr:(ls.any fun p=>decide (6<p.1)||decide (6<p.2))=r) :
  Calls Tryz.prog 28 #[.slice A ls.length cap] w fun e w'=>e=.returned (.bool r)/\Below w.heap.size w w':=by
 have H:=Hd h
 have HS:=Hd hs
 have HA:=Hd hA
 have HR:=Hd hr
 clear h hs hA hr
 go_enter Tryz.func28,Tryz.ntmps28
 go_wp2
 go_loopw [3] (fun i wr=>∃k:Nat,i=.int .i64 k/\k<=ls.length/\(∀j (hj:j<ls.length),j<k->ls[j].1<=6/\ls[j].2<=6)/\Below w.heap.size w wr) (fun i _=>ls.length-(intOf i).toNat)
 case atStart=>exact ⟨0,rfl,Nat.zero_le _,(fun j _ hj=>by omega),Below.refl _ _⟩
 case round =>
  obtain ⟨k,rfl,hk,ht,hb⟩:=hrel
  have HT:=Hd ht
  have HB:=Hd hb
  clear ht hb
  by_cases hlt:k<ls.length
  .obtain ⟨rfl,hg⟩:=HA.out k hlt
   have HG:=Hd hg
   clear hg
   have hc:=H.out k hlt
   have hm:=HS.out k hlt
   have hki:(0:Int)<=(k:Int):=by omega
   have hki':(k:Int)<(ls.length:Int):=by omega
   have HN:Hid (ls[k]=ls[k]):=rfl
   obtain ⟨⟨m1,m2⟩,hn⟩:∃m,ls[k]=m:=⟨_,rfl⟩
   rw[hn]at hc hm
   have HN2:=Hd hn
   obtain ⟨n1,A1,c1,n2,A2,c2,hc⟩:=hc
   have HF:Hid (∀w',Below w.heap.size w w'->w'.cell? ⟨g,o+k*4,none⟩=some (.bool n1)/\w'.cell? ⟨g,o+k*4+1,none⟩=some (.slice A1 m1 c1)/\w'.cell? ⟨g,o+k*4+2,none⟩=some (.bool n2)/\w'.cell? ⟨g,o+k*4+3,none⟩=some (.slice A2 m2 c2)):=fun w' hS =>
    ⟨(hS.cell (p:=⟨g,o+k*4,none⟩) HG.out).trans hc.1,(hS.cell (p:=⟨g,o+k*4+1,none⟩) HG.out).trans hc.2.1,(hS.cell (p:=⟨g,o+k*4+2,none⟩) HG.out).trans hc.2.2.1,(hS.cell (p:=⟨g,o+k*4+3,none⟩) HG.out).trans hc.2.2.2⟩
   have M1:=Hd hm.1
   have M2:=Hd hm.2
   clear hc hm hn HN
   by_cases ha:12<m1∨12<m2
   .have HL:Hid ([m1,m2].any (fun n=>decide (12<n))=true):=by show _=_;simpa using ha
    have hany:Hid ((ls.any fun p=>decide (6<p.1)||decide (6<p.2))=true):=by
     show _=_
     rw[List.any_eq_true]
     exact ⟨ls[k],List.getElem_mem hlt,by rw[HN2.out];simp;omega⟩
    clear ha
    go_wp2_with fail
    refine wp_region_plan (S:=fun w'=>Below w.heap.size w w') [(0,true),(1,true),(2,true),(3,true),(4,true),(5,true),(6,true),(7,true),(8,true),(9,true),(10,false),(11,false),(12,true),(13,true),(14,true),(15,true),(16,true),(17,true),(18,true),(19,true),(20,true),(21,true),(22,true),(23,true),(24,true),(25,true),(26,true),(27,true),(28,true),(29,true),(30,true),(31,true)] (by kernel_rfl) (by kernel_rfl) HB.out.drew ?_
    have hb:=HB.out.drew
    iterate 10 (refine plan_take (v:=?_) rfl (by rfl) ?_ ?_;rotate_left;(focus (intro w' hS;obtain ⟨f0,f1,f2,f3⟩:=HF.out w' hS;go_simp;try with_reducible rfl));simp only[Act.put,List.setIfInBounds_toArray,List.set_cons_zero,List.set_cons_succ])
    refine plan_call rfl (by rfl) (fun K hK=>?_)
    go_simp
    have hnew:=(Four.new wr (.bool n1) (.slice A1 m1 c1) (.bool n2) (.slice A2 m2 c2) 30).to (Below.refl _ _).drew
    replace hb:=hb.alloc hb.size (.cells #[.bool n1,.slice A1 m1 c1,.bool n2,.slice A2 m2 c2] 30)
    refine hK.out _ _ hb ?_
    clear hK K
    refine plan_call rfl (by rfl) (fun K hK=>?_)
    go_simp
    refine (long_2 M1.out M2.out hnew.c1 hnew.c3 HL.out).mono ?_
    rintro e V ⟨rfl,rfl⟩
    refine hK.out _ _ hb ?_
    clear hK K hnew
    refine plan_take (v:=?_) rfl (by rfl) ?_ ?_;rotate_left;(focus (intro w' hS;go_simp;try with_reducible rfl));simp only[Act.put,List.setIfInBounds_toArray,List.set_cons_zero,List.set_cons_succ]
    iterate 8 (refine plan_skip rfl (by rfl) ?_;simp only[Act.put,List.setIfInBounds_toArray,List.set_cons_zero,List.set_cons_succ])
    iterate 2 (refine plan_take (v:=?_) rfl (by rfl) ?_ ?_;rotate_left;(focus (intro w' hS;go_simp;try with_reducible rfl));simp only[Act.put,List.setIfInBounds_toArray,List.set_cons_zero,List.set_cons_succ])
    iterate 8 (refine plan_skip rfl (by rfl) ?_;simp only[Act.put,List.setIfInBounds_toArray,List.set_cons_zero,List.set_cons_succ])
    refine plan_take (v:=?_) rfl (by rfl) ?_ ?_;rotate_left;(focus (intro w' hS;go_simp;try with_reducible rfl));simp only[Act.put,List.setIfInBounds_toArray,List.set_cons_zero,List.set_cons_succ]
    refine plan_done ?_
    have HE:=Hd hb
    clear hb HB
    go_wp2
    go_ret
    exact ⟨by rw[<-HR.out,hany.out];rfl,HE.out⟩
   .have HL:Hid ([m1,m2].any (fun n=>decide (12<n))=false):=by show _=_;simpa using ha
    by_cases hb6:6<m1
    .have hany:Hid ((ls.any fun p=>decide (6<p.1)||decide (6<p.2))=true):=by
      show _=_
      rw[List.any_eq_true]
      exact ⟨ls[k],List.getElem_mem hlt,by rw[HN2.out];simp;omega⟩
     clear ha
     have d1:decide ((6:Int)<(m1:Int))=true:=by simp;omega
     clear hb6
     go_wp2_with fail
     refine wp_region_plan (S:=fun w'=>Below w.heap.size w w') [(0,true),(1,true),(2,true),(3,true),(4,true),(5,true),(6,true),(7,true),(8,true),(9,true),(10,false),(11,false),(12,true),(13,true),(14,true),(15,true),(16,true),(17,true),(18,true),(19,true),(20,true),(21,true),(22,true),(23,true),(24,true),(25,true),(26,true),(27,true),(28,true),(29,true),(30,true),(31,true)] (by kernel_rfl) (by kernel_rfl) HB.out.drew ?_
     have hb:=HB.out.drew
     iterate 10 (refine plan_take (v:=?_) rfl (by rfl) ?_ ?_;rotate_left;(focus (intro w' hS;obtain ⟨f0,f1,f2,f3⟩:=HF.out w' hS;go_simp;try with_reducible rfl));simp only[Act.put,List.setIfInBounds_toArray,List.set_cons_zero,List.set_cons_succ])
     refine plan_call rfl (by rfl) (fun K hK=>?_)
     go_simp
     have hnew:=(Four.new wr (.bool n1) (.slice A1 m1 c1) (.bool n2) (.slice A2 m2 c2) 30).to (Below.refl _ _).drew
     replace hb:=hb.alloc hb.size (.cells #[.bool n1,.slice A1 m1 c1,.bool n2,.slice A2 m2 c2] 30)
     refine hK.out _ _ hb ?_
     clear hK K
     refine plan_call rfl (by rfl) (fun K hK=>?_)
     go_simp
     refine (long_2 M1.out M2.out hnew.c1 hnew.c3 HL.out).mono ?_
     rintro e V ⟨rfl,rfl⟩
     refine hK.out _ _ hb ?_
     clear hK K hnew
     iterate 3 (refine plan_take (v:=?_) rfl (by rfl) ?_ ?_;rotate_left;(focus (intro w' hS;go_simp;try with_reducible rfl));simp only[Act.put,List.setIfInBounds_toArray,List.set_cons_zero,List.set_cons_succ])
     iterate 4 (refine plan_take (v:=?_) rfl (by rfl) ?_ ?_;rotate_left;(focus (intro w' hS;obtain ⟨f0,f1,f2,f3⟩:=HF.out w' hS;go_simp;try with_reducible rfl));simp only[Act.put,List.setIfInBounds_toArray,List.set_cons_zero,List.set_cons_succ])
     iterate 4 (refine plan_take (v:=?_) rfl (by rfl) ?_ ?_;rotate_left;(focus (intro w' hS;go_simp;try with_reducible rfl));simp only[Act.put,List.setIfInBounds_toArray,List.set_cons_zero,List.set_cons_succ])
     iterate 8 (refine plan_skip rfl (by rfl) ?_;simp only[Act.put,List.setIfInBounds_toArray,List.set_cons_zero,List.set_cons_succ])
     refine plan_take (v:=?_) rfl (by rfl) ?_ ?_;rotate_left;(focus (intro w' hS;go_simp;try with_reducible rfl));simp only[Act.put,List.setIfInBounds_toArray,List.set_cons_zero,List.set_cons_succ]
     refine plan_done ?_
     have HE:=Hd hb
     clear hb HB
     go_wp2
     go_ret
     exact ⟨by rw[<-HR.out,hany.out];rfl,HE.out⟩
    .by_cases hc6:6<m2
     .have hany:Hid ((ls.any fun p=>decide (6<p.1)||decide (6<p.2))=true):=by
       show _=_
       rw[List.any_eq_true]
       exact ⟨ls[k],List.getElem_mem hlt,by rw[HN2.out];simp;omega⟩
      clear ha
      have d1:decide ((6:Int)<(m1:Int))=false:=by simp;omega
      have d2:decide ((6:Int)<(m2:Int))=true:=by simp;omega
      clear hb6 hc6
      go_wp2_with fail
      refine wp_region_plan (S:=fun w'=>Below w.heap.size w w') [(0,true),(1,true),(2,true),(3,true),(4,true),(5,true),(6,true),(7,true),(8,true),(9,true),(10,false),(11,false),(12,true),(13,true),(14,true),(15,true),(16,true),(17,true),(18,true),(19,true),(20,true),(21,true),(22,true),(23,true),(24,true),(25,true),(26,true),(27,true),(28,true),(29,true),(30,true),(31,true)] (by kernel_rfl) (by kernel_rfl) HB.out.drew ?_
      have hb:=HB.out.drew
      iterate 10 (refine plan_take (v:=?_) rfl (by rfl) ?_ ?_;rotate_left;(focus (intro w' hS;obtain ⟨f0,f1,f2,f3⟩:=HF.out w' hS;go_simp;try with_reducible rfl));simp only[Act.put,List.setIfInBounds_toArray,List.set_cons_zero,List.set_cons_succ])
      refine plan_call rfl (by rfl) (fun K hK=>?_)
      go_simp
      have hnew:=(Four.new wr (.bool n1) (.slice A1 m1 c1) (.bool n2) (.slice A2 m2 c2) 30).to (Below.refl _ _).drew
      replace hb:=hb.alloc hb.size (.cells #[.bool n1,.slice A1 m1 c1,.bool n2,.slice A2 m2 c2] 30)
      refine hK.out _ _ hb ?_
      clear hK K
      refine plan_call rfl (by rfl) (fun K hK=>?_)
      go_simp
      refine (long_2 M1.out M2.out hnew.c1 hnew.c3 HL.out).mono ?_
      rintro e V ⟨rfl,rfl⟩
      refine hK.out _ _ hb ?_
      clear hK K hnew
      iterate 3 (refine plan_take (v:=?_) rfl (by rfl) ?_ ?_;rotate_left;(focus (intro w' hS;go_simp;try with_reducible rfl));simp only[Act.put,List.setIfInBounds_toArray,List.set_cons_zero,List.set_cons_succ])
      iterate 4 (refine plan_take (v:=?_) rfl (by rfl) ?_ ?_;rotate_left;(focus (intro w' hS;obtain ⟨f0,f1,f2,f3⟩:=HF.out w' hS;go_simp;try with_reducible rfl));simp only[Act.put,List.setIfInBounds_toArray,List.set_cons_zero,List.set_cons_succ])
      iterate 6 (refine plan_take (v:=?_) rfl (by rfl) ?_ ?_;rotate_left;(focus (intro w' hS;go_simp;try with_reducible rfl));simp only[Act.put,List.setIfInBounds_toArray,List.set_cons_zero,List.set_cons_succ])
      iterate 4 (refine plan_take (v:=?_) rfl (by rfl) ?_ ?_;rotate_left;(focus (intro w' hS;obtain ⟨f0,f1,f2,f3⟩:=HF.out w' hS;go_simp;try with_reducible rfl));simp only[Act.put,List.setIfInBounds_toArray,List.set_cons_zero,List.set_cons_succ])
      iterate 3 (refine plan_take (v:=?_) rfl (by rfl) ?_ ?_;rotate_left;(focus (intro w' hS;go_simp;try with_reducible rfl));simp only[Act.put,List.setIfInBounds_toArray,List.set_cons_zero,List.set_cons_succ])
      refine plan_done ?_
      have HE:=Hd hb
      clear hb HB
      go_wp2
      go_ret
      exact ⟨by rw[<-HR.out,hany.out];rfl,HE.out⟩
     .have hok:Hid (m1<=6/\m2<=6):=by show _/\_;omega
      clear ha
      have d1:decide ((6:Int)<(m1:Int))=false:=by simp;omega
      have d2:decide ((6:Int)<(m2:Int))=false:=by simp;omega
      clear hb6 hc6
      go_wp2_with fail
      refine wp_region_plan (S:=fun w'=>Below w.heap.size w w') [(0,true),(1,true),(2,true),(3,true),(4,true),(5,true),(6,true),(7,true),(8,true),(9,true),(10,false),(11,false),(12,true),(13,true),(14,true),(15,true),(16,true),(17,true),(18,true),(19,true),(20,true),(21,true),(22,true),(23,true),(24,true),(25,true),(26,true),(27,true),(28,true),(29,true),(30,true),(31,true)] (by kernel_rfl) (by kernel_rfl) HB.out.drew ?_
      have hb:=HB.out.drew
      iterate 10 (refine plan_take (v:=?_) rfl (by rfl) ?_ ?_;rotate_left;(focus (intro w' hS;obtain ⟨f0,f1,f2,f3⟩:=HF.out w' hS;go_simp;try with_reducible rfl));simp only[Act.put,List.setIfInBounds_toArray,List.set_cons_zero,List.set_cons_succ])
      refine plan_call rfl (by rfl) (fun K hK=>?_)
      go_simp
      have hnew:=(Four.new wr (.bool n1) (.slice A1 m1 c1) (.bool n2) (.slice A2 m2 c2) 30).to (Below.refl _ _).drew
      replace hb:=hb.alloc hb.size (.cells #[.bool n1,.slice A1 m1 c1,.bool n2,.slice A2 m2 c2] 30)
      refine hK.out _ _ hb ?_
      clear hK K
      refine plan_call rfl (by rfl) (fun K hK=>?_)
      go_simp
      refine (long_2 M1.out M2.out hnew.c1 hnew.c3 HL.out).mono ?_
      rintro e V ⟨rfl,rfl⟩
      refine hK.out _ _ hb ?_
      clear hK K hnew
      iterate 3 (refine plan_take (v:=?_) rfl (by rfl) ?_ ?_;rotate_left;(focus (intro w' hS;go_simp;try with_reducible rfl));simp only[Act.put,List.setIfInBounds_toArray,List.set_cons_zero,List.set_cons_succ])
      iterate 4 (refine plan_take (v:=?_) rfl (by rfl) ?_ ?_;rotate_left;(focus (intro w' hS;obtain ⟨f0,f1,f2,f3⟩:=HF.out w' hS;go_simp;try with_reducible rfl));simp only[Act.put,List.setIfInBounds_toArray,List.set_cons_zero,List.set_cons_succ])
      iterate 6 (refine plan_take (v:=?_) rfl (by rfl) ?_ ?_;rotate_left;(focus (intro w' hS;go_simp;try with_reducible rfl));simp only[Act.put,List.setIfInBounds_toArray,List.set_cons_zero,List.set_cons_succ])
      iterate 4 (refine plan_take (v:=?_) rfl (by rfl) ?_ ?_;rotate_left;(focus (intro w' hS;obtain ⟨f0,f1,f2,f3⟩:=HF.out w' hS;go_simp;try with_reducible rfl));simp only[Act.put,List.setIfInBounds_toArray,List.set_cons_zero,List.set_cons_succ])
      iterate 3 (refine plan_take (v:=?_) rfl (by rfl) ?_ ?_;rotate_left;(focus (intro w' hS;go_simp;try with_reducible rfl));simp only[Act.put,List.setIfInBounds_toArray,List.set_cons_zero,List.set_cons_succ])
      refine plan_done ?_
      have HE:=Hd hb
      clear hb HB
      go_wp2
      go_roundw
      case rel=>exact ⟨k+1,by simp,by omega,(fun j hj hjk=>by
       rcases Nat.lt_or_ge j k with h1|h1
       .exact HT.out j hj h1
       .obtain rfl:j=k:=by omega
        rw[HN2.out];exact hok.out),HE.out⟩
      case measure=>simp[intOf];omega
  .obtain rfl:k=ls.length:=by omega
   clear hlt
   go_wp2
   go_ret
   refine ⟨?_,HB.out⟩
   have:(ls.any fun p=>decide (6<p.1)||decide (6<p.2))=false:=by
    rw[List.any_eq_false]
    intro x hx
    obtain ⟨j,hj,rfl⟩:=List.getElem_of_mem hx
    have:=HT.out j hj hj
    simp;omega
   rw[<-HR.out,this]
   rfl
def ZxE (W:World)(e:E4):Prop:=Zx2 W e.a e.b/\Zx2 W e.c e.d
theorem Zx2.to {W V:World}{x y:Value}(h:Zx2 W x y)(hb:Below W.heap.size W V):Zx2 V x y:=by
 obtain ⟨n,A,c,xs,h1,h2,h3,h4⟩:=h
 exact ⟨n,A,c,xs,h1,h2,h3.to hb,h4⟩
theorem ZxE.to {W V:World}{e:E4}(h:ZxE W e)(hb:Below W.heap.size W V):ZxE V e:=⟨h.1.to hb,h.2.to hb⟩
theorem ZxE.fq {W:World}{e:E4}(h:ZxE W e):e.fq:=by
 obtain ⟨⟨n,A,c,xs,h1,h2,_⟩,⟨m,B,d,ys,h3,h4,_⟩⟩:=h
 exact ⟨⟨n,A,xs.length,c,h1,h2⟩,⟨m,B,ys.length,d,h3,h4⟩⟩
def vlen : Value->Nat
 | .slice _ n _=>n
 | _=>0
def lngE (e:E4):Bool:=decide (6<vlen e.b)||decide (6<vlen e.d)
def lngV (es:List E4):Bool:=decide (20<es.length)||es.any lngE
structure VA where
 A:Option Addr
 c:Nat
 es:List E4
structure VIn (W:World)(v:VA):Prop where
 row:Rq W W.heap.size v.A v.es
 el:∀e∈v.es,ZxE W e
 cap:v.es.length<=v.c
 c63:v.c<=9223372036854775807
theorem VIn.to {W V:World}{v:VA}(h:VIn W v)(hb:Below W.heap.size W V):VIn V v:=⟨h.row.to hb,fun e he=>(h.el e he).to hb,h.cap,h.c63⟩
theorem flong_v {w:World}{v:VA}(h:VIn w v)(hl:v.es.length<=1000){r:Bool}(hr:v.es.any lngE=r) :
  Calls Tryz.prog 28 #[.slice v.A v.es.length v.c] w fun e w'=>e=.returned (.bool r)/\Below w.heap.size w w':=by
 obtain ⟨A,c,es⟩:=v
 obtain ⟨hrow,hel,hcap,hc63⟩:=h
 dsimp only at hrow hel hcap hc63 hl hr ⊢
 have key:∃g o,∀k,k<es.length->A=some ⟨g,o,none⟩/\g<w.heap.size:=by
  by_cases h0:0<es.length
  .obtain ⟨b,o,rfl,hb,_⟩:=hrow 0 h0
   exact ⟨b,o,fun k _=>⟨rfl,hb⟩⟩
  .exact ⟨0,0,fun k hk=>by omega⟩
 obtain ⟨g,o,key⟩:=key
 have h1:=flong_o g o A (es.map fun e=>(vlen e.b,vlen e.d)) c w (fun k hk=>key k (by simpa using hk)) (fun k hk=>by
  have hk':k<es.length:=by simpa using hk
  obtain ⟨b,o',e1,hb,c0,c1,c2,c3⟩:=hrow k hk'
  obtain ⟨e2,_⟩:=key k hk'
  rw[e1]at e2
  simp only[Option.some.injEq,Addr.mk.injEq,and_true]at e2
  obtain ⟨rfl,rfl⟩:=e2
  obtain ⟨⟨n,A1,d1,xs,f1,f2,_⟩,⟨m,A2,d2,ys,f3,f4,_⟩⟩:=hel _ (List.getElem_mem hk')
  rw[f1]at c0
  rw[f2]at c1
  rw[f3]at c2
  rw[f4]at c3
  refine ⟨n,A1,d1,m,A2,d2,c0,?_,c2,?_⟩
  .rw[c1];simp[f2,vlen]
  .rw[c3];simp[f4,vlen]) (fun k hk=>by
  have hk':k<es.length:=by simpa using hk
  obtain ⟨⟨n,A1,d1,xs,f1,f2,_,_,g1,g2⟩,⟨m,A2,d2,ys,f3,f4,_,_,g3,g4⟩⟩:=hel _ (List.getElem_mem hk')
  simp only[List.getElem_map,f2,f4,vlen]
  exact ⟨by omega,by omega⟩) (by simpa using hl) (r:=r) (by rw[<-hr,List.any_map];rfl)
 rw[List.length_map]at h1
 exact h1
theorem vlong_any (g:Nat)(vs:List VA)(cap:Nat)(w:World)(hg:g<w.heap.size)(hc:∀i (h:i<vs.length),w.cell? ⟨g,i,none⟩=some (.slice vs[i].A vs[i].es.length vs[i].c))(hv:∀v∈vs,VIn w v)(hl:vs.length<=1000){r:Bool}(hr:vs.any (fun v=>lngV v.es)=r) :
  Calls Tryz.prog 27 #[.slice (some ⟨g,0,none⟩) vs.length cap] w fun e w'=>e=.returned (.bool r)/\Below w.heap.size w w':=by
 have HG:=Hd hg
 have HC:=Hd hc
 have HV:=Hd hv
 have HR:=Hd hr
 clear hg hc hv hr
 go_enter Tryz.func27,Tryz.ntmps27
 go_wp2
 go_loopw [3] (fun i wr=>∃k:Nat,i=.int .i64 k/\k<=vs.length/\(∀j (hj:j<vs.length),j<k->lngV vs[j].es=false)/\Below w.heap.size w wr) (fun i _=>vs.length-(intOf i).toNat)
 case atStart=>exact ⟨0,rfl,Nat.zero_le _,(fun j _ hj=>by omega),Below.refl _ _⟩
 case round =>
  obtain ⟨k,rfl,hk,ht,hb⟩:=hrel
  have HT:=Hd ht
  have HB:=Hd hb
  clear ht hb
  by_cases hlt:k<vs.length
  .have hki:(0:Int)<=(k:Int):=by omega
   have hki':(k:Int)<(vs.length:Int):=by omega
   have hcell:=(HB.out.cell (p:=⟨g,k,none⟩) HG.out).trans (HC.out k hlt)
   have hvk:=(HV.out _ (List.getElem_mem hlt)).to HB.out
   have HN:Hid (∀b,lngV vs[k].es=b->lngV vs[k].es=b):=fun _ h=>h
   obtain ⟨v,hve⟩:∃v,vs[k]=v:=⟨_,rfl⟩
   have HVE:=Hd hve
   rw[hve]at hcell hvk
   have hsz:=Nat.le_trans hvk.cap hvk.c63
   have HVK:=Hd hvk
   have HLT:=Hd hlt
   clear hvk HN hve
   by_cases h20:20<v.es.length
   .have hd:decide ((20:Int)<(v.es.length:Int))=true:=decide_eq_true (by omega)
    have hany:Hid (vs.any (fun v=>lngV v.es)=true):=by
     show _=_
     rw[List.any_eq_true]
     exact ⟨vs[k]'HLT.out,List.getElem_mem _,by rw[HVE.out];unfold lngV;rw[decide_eq_true h20];rfl⟩
    clear h20
    go_wp2
    go_ret
    exact ⟨by rw[<-HR.out,hany.out];rfl,HB.out⟩
   .have hd:decide ((20:Int)<(v.es.length:Int))=false:=decide_eq_false (by omega)
    have hd2:¬(20:Int)<(v.es.length:Int):=by omega
    have H20:=Hd h20
    obtain ⟨r1,hr1⟩:∃r1,v.es.any lngE=r1:=⟨_,rfl⟩
    have HR1:=Hd hr1
    clear h20 hr1
    go_wp2_with fail
    refine (flong_v HVK.out (by have:=H20.out;omega) HR1.out).mono ?_
    rintro e V ⟨rfl,bb⟩
    have HB2:=Hxb HB bb
    clear bb
    cases r1 with
    | true =>
     have hany:Hid (vs.any (fun v=>lngV v.es)=true):=by
      show _=_
      rw[List.any_eq_true]
      exact ⟨vs[k]'HLT.out,List.getElem_mem _,by rw[HVE.out];unfold lngV;rw[HR1.out,Bool.or_true]⟩
     go_wp2
     go_ret
     exact ⟨by rw[<-HR.out,hany.out];rfl,HB2.out⟩
    | false =>
     go_wp2
     go_roundw
     case rel =>
      refine ⟨k+1,by simp,HLT.out,fun j hj hjk=>?_,HB2.out⟩
      by_cases hjk':j=k
      .subst hjk'
       rw[HVE.out]
       unfold lngV
       rw[HR1.out,decide_eq_false H20.out]
       rfl
      .exact HT.out j hj (by omega)
     case measure=>have:=HLT.out;simp[intOf];omega
  .obtain rfl:k=vs.length:=by omega
   go_wp2
   go_ret
   refine ⟨?_,HB.out⟩
   rw[<-HR.out,show vs.any (fun v=>lngV v.es)=false from by
    rw[List.any_eq_false]
    intro x hx
    obtain ⟨j,hj,rfl⟩:=List.mem_iff_getElem.1 hx
    simpa using HT.out j hj hj]
   rfl
theorem VIn.vi {w:World}{v:VA}(h:VIn w v)(hl:lngV v.es=false):∃rs,Vi w v.A v.c v.es rs 6/\rs.length<=20:=by
 obtain ⟨A,c,es⟩:=v
 obtain ⟨hrow,hel,hcap,hc63⟩:=h
 dsimp only at hrow hel hcap hc63 hl ⊢
 unfold lngV at hl
 simp only[Bool.or_eq_false_iff,decide_eq_false_iff_not,List.any_eq_false]at hl
 have key:∀e∈es,∃r:Rat,Qi w e.a e.b e.c e.d r 6:=fun e he=>by
  have h1:=hl.2 e he
  obtain ⟨⟨n,A1,d1,xs,f1,f2,r1,g1,l1,m1⟩,⟨m,A2,d2,ys,f3,f4,r2,g2,l2,m2⟩⟩:=hel e he
  unfold lngE at h1
  simp only[f2,f4,vlen,Bool.or_eq_true,decide_eq_true_eq,not_or]at h1
  refine ⟨_,_,_,⟨n,A1,d1,xs,f1,f2,⟨r1,g1,l1,m1,by omega⟩,by omega,rfl⟩,⟨m,A2,d2,ys,f3,f4,⟨r2,g2,l2,m2,by omega⟩,by omega,rfl⟩,rfl,Sm.zof g1 (by omega),Sm.zof g2 (by omega)⟩
 obtain ⟨rs,h1,h2⟩:∃rs:List Rat,es.length=rs.length/\∀i,Qi w (es.getD i E4.z).a (es.getD i E4.z).b (es.getD i E4.z).c (es.getD i E4.z).d (rs.getD i 0) 6:=by
  clear hrow hcap hl hel
  induction es with
  | nil=>exact ⟨[],rfl,fun i=>by simpa [E4.z]using Qi.zero w⟩
  | cons e r ih =>
   obtain ⟨q,hq⟩:=key e (by simp)
   obtain ⟨rs,h1,h2⟩:=ih (fun e he=>key e (by simp[he]))
   refine ⟨q::rs,by simp[h1],fun i=>?_⟩
   cases i with
   | zero=>simpa using hq
   | succ i=>simpa using h2 i
 exact ⟨rs,⟨hrow,h1,h2,fun e he=>(hel e he).fq,hcap,hc63⟩,by rw[<-h1];omega⟩
end Go.Proofs.YtglhdielkkhefaaGreat

namespace Go.Proofs.YtglhdielkkhefaaGreat
open Go.ChangeShapes Go.WideShapes Go.ChangeAt Go.RowKit Go.Joins
instance : Inhabited E4:=⟨E4.z⟩
theorem spot_none {W:World}{a:Addr}{v:Value}(h:W.cell? a=some v):a.spot=none:=by
 unfold World.cell? at h
 split at h
 .split at h
  .cases h
  .rename_i hs
   simpa using hs
 .cases h
theorem open_v {H:Type}{enc:TypeId×Value->H}{W:World}{base:Nat}{spare:Nat->Bool}{held:Bool}{r:Reach}{b0:Nat}{v:Value}{d:DataW H}{p:List MemPlace}
  (hs:∀b,spare b=true) (hv:Value.okWide Tryz.prog W r b0 38 v) (h:DataW.Trod enc Tryz.prog W base spare held 38 v d p) :
  ∃A c es,v=.slice A es.length c/\VIn W ⟨A,c,es⟩:=by
 obtain ⟨a,len,cap,rfl⟩:=okWide_slice Tryz.underlying38 hv
 obtain ⟨fuel,hf⟩:=h
 replace hf:DataW.trod enc Tryz.prog W base spare held fuel 38 [.slice a len cap]=some (d,p):=hf
 rcases Go.Deep.open_slice Tryz.underlying38 hf with ⟨e1,_⟩|⟨ad,l,cp,m,n,D,Pl,e1,hb,hl,hm,hmm,_,hx⟩
 .simp only[List.cons.injEq,Value.slice.injEq,and_true]at e1
  obtain ⟨rfl,rfl,rfl⟩:=e1
  exact ⟨none,0,[],rfl,⟨Rq.nil,fun e he=>(by cases he),Nat.le_refl _,by decide⟩⟩
 .simp only[List.cons.injEq,Value.slice.injEq,and_true]at e1
  obtain ⟨rfl,rfl,rfl⟩:=e1
  have hlm:len<=m:=by rw[hmm];split<;>omega
  have each:∀i,i<len->∃E:E4,(W.cell? (ad.add (i*4))=some E.a/\W.cell? (ad.add (i*4+1))=some E.b/\W.cell? (ad.add (i*4+2))=some E.c/\W.cell? (ad.add (i*4+3))=some E.d)/\ZxE W E:=by
   intro i hi
   obtain ⟨cs',h1,h2⟩:=hx i (by omega)
   rw[cellsQ]at h1
   obtain ⟨_,hlen,hcell⟩:=World.cells?_some h1
   match cs',hlen with
   | [c0,c1,c2,c3],_ =>
    have f0:=hcell 0 (by omega)
    have f1:=hcell 1 (by omega)
    have f2:=hcell 2 (by omega)
    have f3:=hcell 3 (by omega)
    rw[Go.Deep.add_add]at f0 f1 f2 f3
    exact ⟨⟨c0,c1,c2,c3⟩,⟨by simpa using f0,by simpa using f1,by simpa using f2,by simpa using f3⟩,trod_q hs h2⟩
  obtain ⟨E,hE⟩:=Go.Deep.choose_lt each
  have hlen:((List.range len).map E).length=len:=by simp
  refine ⟨some ad,cap,(List.range len).map E,by rw[hlen],⟨?_,?_,by show ((List.range len).map E).length<=cap;rw[hlen];exact hl,by have:=hm;unfold maxLen at this;show cap<=_;omega⟩⟩
  .intro k hk
   have hk':k<len:=by rw[<-hlen];exact hk
   obtain ⟨⟨c0,c1,c2,c3⟩,_⟩:=hE k hk'
   have hsp:=spot_none (hE 0 (by omega)).1.1
   obtain ⟨b,o,sp⟩:=ad
   have h0:(⟨b,o,sp⟩:Addr).add (0*4)=⟨b,o,sp⟩:=by simp[Addr.add]
   rw[h0]at hsp
   dsimp only at hsp
   subst hsp
   have hadd:∀j,(⟨b,o,none⟩:Addr).add j=⟨b,o+j,none⟩:=fun j=>by
    unfold Addr.add
    by_cases hj:j=0
    .simp[hj]
    .simp[hj]
   rw[hadd]at c0 c1 c2 c3
   refine ⟨b,o,rfl,World.block_lt_of_cell? W _ c0,?_⟩
   have he:((List.range len).map E)[k]=E k:=by simp
   show W.cell? ⟨b,o+k*4,none⟩=some (((List.range len).map E)[k]).a/\W.cell? ⟨b,o+k*4+1,none⟩=some (((List.range len).map E)[k]).b/\W.cell? ⟨b,o+k*4+2,none⟩=some (((List.range len).map E)[k]).c/\W.cell? ⟨b,o+k*4+3,none⟩=some (((List.range len).map E)[k]).d
   rw[he]
   exact ⟨c0,by rw[<-Nat.add_assoc]at c1;exact c1,by rw[<-Nat.add_assoc]at c2;exact c2,by rw[<-Nat.add_assoc]at c3;exact c3⟩
  .intro e he
   obtain ⟨i,hi,rfl⟩:=List.mem_map.1 he
   exact (hE i (List.mem_range.1 hi)).2
theorem open_vt {H:Type}{enc:TypeId×Value->H}{W:World}{base:Nat}{spare:Nat->Bool}{held:Bool}{v:Value}{fuel:Nat}{x:DataW H×List MemPlace}
  (hs:∀b,spare b=true) (hf:DataW.trod enc Tryz.prog W base spare held fuel 38 [v]=some x) :
  ∃A c es,v=.slice A es.length c/\VIn W ⟨A,c,es⟩:=by
 rcases Go.Deep.open_slice Tryz.underlying38 hf with ⟨e1,_⟩|⟨ad,len,cap,m,n,D,Pl,e1,hb,hl,hm,hmm,_,hx⟩
 .simp only[List.cons.injEq,Value.slice.injEq,and_true]at e1
  obtain ⟨rfl,rfl,rfl⟩:=e1
  exact ⟨none,0,[],rfl,⟨Rq.nil,fun e he=>(by cases he),Nat.le_refl _,by decide⟩⟩
 .simp only[List.cons.injEq,Value.slice.injEq,and_true]at e1
  obtain ⟨rfl,rfl,rfl⟩:=e1
  have hlm:len<=m:=by rw[hmm];split<;>omega
  have each:∀i,i<len->∃E:E4,(W.cell? (ad.add (i*4))=some E.a/\W.cell? (ad.add (i*4+1))=some E.b/\W.cell? (ad.add (i*4+2))=some E.c/\W.cell? (ad.add (i*4+3))=some E.d)/\ZxE W E:=by
   intro i hi
   obtain ⟨cs',h1,h2⟩:=hx i (by omega)
   rw[cellsQ]at h1
   obtain ⟨_,hlen,hcell⟩:=World.cells?_some h1
   match cs',hlen with
   | [c0,c1,c2,c3],_ =>
    have f0:=hcell 0 (by omega)
    have f1:=hcell 1 (by omega)
    have f2:=hcell 2 (by omega)
    have f3:=hcell 3 (by omega)
    rw[Go.Deep.add_add]at f0 f1 f2 f3
    exact ⟨⟨c0,c1,c2,c3⟩,⟨by simpa using f0,by simpa using f1,by simpa using f2,by simpa using f3⟩,trod_q hs h2⟩
  obtain ⟨E,hE⟩:=Go.Deep.choose_lt each
  have hlen:((List.range len).map E).length=len:=by simp
  refine ⟨some ad,cap,(List.range len).map E,by rw[hlen],⟨?_,?_,by show ((List.range len).map E).length<=cap;rw[hlen];exact hl,by have:=hm;unfold maxLen at this;show cap<=_;omega⟩⟩
  .intro k hk
   have hk':k<len:=by rw[<-hlen];exact hk
   obtain ⟨⟨c0,c1,c2,c3⟩,_⟩:=hE k hk'
   have hsp:=spot_none (hE 0 (by omega)).1.1
   obtain ⟨b,o,sp⟩:=ad
   have h0:(⟨b,o,sp⟩:Addr).add (0*4)=⟨b,o,sp⟩:=by simp[Addr.add]
   rw[h0]at hsp
   dsimp only at hsp
   subst hsp
   have hadd:∀j,(⟨b,o,none⟩:Addr).add j=⟨b,o+j,none⟩:=fun j=>by
    unfold Addr.add
    by_cases hj:j=0
    .simp[hj]
    .simp[hj]
   rw[hadd]at c0 c1 c2 c3
   refine ⟨b,o,rfl,World.block_lt_of_cell? W _ c0,?_⟩
   have he:((List.range len).map E)[k]=E k:=by simp
   show W.cell? ⟨b,o+k*4,none⟩=some (((List.range len).map E)[k]).a/\W.cell? ⟨b,o+k*4+1,none⟩=some (((List.range len).map E)[k]).b/\W.cell? ⟨b,o+k*4+2,none⟩=some (((List.range len).map E)[k]).c/\W.cell? ⟨b,o+k*4+3,none⟩=some (((List.range len).map E)[k]).d
   rw[he]
   exact ⟨c0,by rw[<-Nat.add_assoc]at c1;exact c1,by rw[<-Nat.add_assoc]at c2;exact c2,by rw[<-Nat.add_assoc]at c3;exact c3⟩
  .intro e he
   obtain ⟨i,hi,rfl⟩:=List.mem_map.1 he
   exact (hE i (List.mem_range.1 hi)).2
theorem cellsV : Tryz.prog.cellsOf 38=1:=by kernel_rfl
theorem open_r {H:Type}{enc:TypeId×Value->H}{W:World}{base:Nat}{spare:Nat->Bool}{held:Bool}{r:Reach}{b0:Nat}{v:Value}{d:DataW H}{p:List MemPlace}
  (hs:∀b,spare b=true) (hv:Value.okWide Tryz.prog W r b0 22 v) (h:DataW.Trod enc Tryz.prog W base spare held 22 v d p) :
  ∃(P:Option Addr) (n C:Nat) (vs:Nat->VA),v=.slice P n C/\n<=9223372036854775807/\(∀i,i<n->∃b o,P=some ⟨b,o,none⟩/\b<W.heap.size/\W.cell? ⟨b,o+i,none⟩=some (.slice (vs i).A (vs i).es.length (vs i).c))/\∀i,i<n->VIn W (vs i):=by
 obtain ⟨a,len,cap,rfl⟩:=okWide_slice Tryz.underlying22 hv
 obtain ⟨fuel,hf⟩:=h
 replace hf:DataW.trod enc Tryz.prog W base spare held fuel 22 [.slice a len cap]=some (d,p):=hf
 rcases Go.Deep.open_slice1 Tryz.underlying22 cellsV hf with ⟨e1,_⟩|⟨ad,l,cp,m,n,V,D,Pl,e1,hb,hl,hm,hmm,_,hx⟩
 .simp only[List.cons.injEq,Value.slice.injEq,and_true]at e1
  obtain ⟨rfl,rfl,rfl⟩:=e1
  exact ⟨none,0,0,fun _=>⟨none,0,[]⟩,rfl,by decide,fun i hi=>absurd hi (Nat.not_lt_zero _),fun i hi=>absurd hi (Nat.not_lt_zero _)⟩
 .simp only[List.cons.injEq,Value.slice.injEq,and_true]at e1
  obtain ⟨rfl,rfl,rfl⟩:=e1
  have hlm:len<=m:=by rw[hmm];split<;>omega
  have each:∀i,i<len->∃u:VA,V i=.slice u.A u.es.length u.c/\VIn W u:=fun i hi=>by
   obtain ⟨A,c,es,h1,h2⟩:=open_vt hs (hx i (by omega)).2
   exact ⟨⟨A,c,es⟩,h1,h2⟩
  haveI:Inhabited VA:=⟨⟨none,0,[]⟩⟩
  obtain ⟨vs,hvs⟩:=Go.Deep.choose_lt each
  refine ⟨some ad,len,cap,vs,rfl,by have:=hm;unfold maxLen at this;omega,fun i hi=>?_,fun i hi=>(hvs i hi).2⟩
  have hc:=(hx i (by omega)).1
  have h0:=(hx 0 (by omega)).1
  obtain ⟨b,o,sp⟩:=ad
  have h00:(⟨b,o,sp⟩:Addr).add 0=⟨b,o,sp⟩:=by simp[Addr.add]
  rw[h00]at h0
  have hsp:=spot_none h0
  dsimp only at hsp
  subst hsp
  have hadd:(⟨b,o,none⟩:Addr).add i=⟨b,o+i,none⟩:=by
   unfold Addr.add
   by_cases hj:i=0
   .simp[hj]
   .simp[hj]
  rw[hadd,(hvs i hi).1]at hc
  exact ⟨b,o,rfl,World.block_lt_of_cell? W _ hc,hc⟩
end Go.Proofs.YtglhdielkkhefaaGreat

namespace Go.Proofs.YtglhdielkkhefaaGreat
open Go.RowKit Go.Shelf
theorem vlong_o (P:Option Addr)(vs:List VA)(cap:Nat)(w:World)(hc:∀i (h:i<vs.length),∃b o,P=some ⟨b,o,none⟩/\b<w.heap.size/\w.cell? ⟨b,o+i,none⟩=some (.slice vs[i].A vs[i].es.length vs[i].c))(hv:∀v∈vs,VIn w v)(hl:vs.length<=9223372036854775807){r:Bool}(hr:vs.any (fun v=>lngV v.es)=r) :
  Calls Tryz.prog 27 #[.slice P vs.length cap] w fun e w'=>e=.returned (.bool r)/\Below w.heap.size w w':=by
 have HC:=Hd hc
 have HV:=Hd hv
 have HR:=Hd hr
 clear hc hv hr
 go_enter Tryz.func27,Tryz.ntmps27
 go_wp2
 go_loopw [3] (fun i wr=>∃k:Nat,i=.int .i64 k/\k<=vs.length/\(∀j (hj:j<vs.length),j<k->lngV vs[j].es=false)/\Below w.heap.size w wr) (fun i _=>vs.length-(intOf i).toNat)
 case atStart=>exact ⟨0,rfl,Nat.zero_le _,(fun j _ hj=>by omega),Below.refl _ _⟩
 case round =>
  obtain ⟨k,rfl,hk,ht,hb⟩:=hrel
  have HT:=Hd ht
  have HB:=Hd hb
  clear ht hb
  by_cases hlt:k<vs.length
  .have hki:(0:Int)<=(k:Int):=by omega
   have hki':(k:Int)<(vs.length:Int):=by omega
   obtain ⟨b,o,rfl,hbb,hc0⟩:=HC.out k hlt
   have hcell:=(HB.out.cell (p:=⟨b,o+k,none⟩) hbb).trans hc0
   have hk63:(k:Int)+1<=9223372036854775807:=by omega
   clear hc0 hbb
   have hvk:=(HV.out _ (List.getElem_mem hlt)).to HB.out
   have HN:Hid (∀b,lngV vs[k].es=b->lngV vs[k].es=b):=fun _ h=>h
   obtain ⟨v,hve⟩:∃v,vs[k]=v:=⟨_,rfl⟩
   have HVE:=Hd hve
   rw[hve]at hcell hvk
   have hsz:=Nat.le_trans hvk.cap hvk.c63
   have HVK:=Hd hvk
   have HLT:=Hd hlt
   clear hvk HN hve
   by_cases h20:20<v.es.length
   .have hd:decide ((20:Int)<(v.es.length:Int))=true:=decide_eq_true (by omega)
    have hany:Hid (vs.any (fun v=>lngV v.es)=true):=by
     show _=_
     rw[List.any_eq_true]
     exact ⟨vs[k]'HLT.out,List.getElem_mem _,by rw[HVE.out];unfold lngV;rw[decide_eq_true h20];rfl⟩
    clear h20
    go_wp2
    go_ret
    exact ⟨by rw[<-HR.out,hany.out];rfl,HB.out⟩
   .have hd:decide ((20:Int)<(v.es.length:Int))=false:=decide_eq_false (by omega)
    have hd2:¬(20:Int)<(v.es.length:Int):=by omega
    have H20:=Hd h20
    obtain ⟨r1,hr1⟩:∃r1,v.es.any lngE=r1:=⟨_,rfl⟩
    have HR1:=Hd hr1
    clear h20 hr1
    go_wp2_with fail
    refine (flong_v HVK.out (by have:=H20.out;omega) HR1.out).mono ?_
    rintro e V ⟨rfl,bb⟩
    have HB2:=Hxb HB bb
    clear bb
    cases r1 with
    | true =>
     have hany:Hid (vs.any (fun v=>lngV v.es)=true):=by
      show _=_
      rw[List.any_eq_true]
      exact ⟨vs[k]'HLT.out,List.getElem_mem _,by rw[HVE.out];unfold lngV;rw[HR1.out,Bool.or_true]⟩
     go_wp2
     go_ret
     exact ⟨by rw[<-HR.out,hany.out];rfl,HB2.out⟩
    | false =>
     go_wp2
     go_roundw
     case rel =>
      refine ⟨k+1,by simp,HLT.out,fun j hj hjk=>?_,HB2.out⟩
      by_cases hjk':j=k
      .subst hjk'
       rw[HVE.out]
       unfold lngV
       rw[HR1.out,decide_eq_false H20.out]
       rfl
      .exact HT.out j hj (by omega)
     case measure=>have:=HLT.out;simp[intOf];omega
  .obtain rfl:k=vs.length:=by omega
   go_wp2
   go_ret
   refine ⟨?_,HB.out⟩
   rw[<-HR.out,show vs.any (fun v=>lngV v.es)=false from by
    rw[List.any_eq_false]
    intro x hx
    obtain ⟨j,hj,rfl⟩:=List.mem_iff_getElem.1 hx
    simpa using HT.out j hj hj]
   rfl
structure MA where
 P:Option Addr
 N:Nat
 C:Nat
 vs:Nat->VA
structure MIn (W:World)(M:MA):Prop where
 row:∀i,i<M.N->∃b o,M.P=some ⟨b,o,none⟩/\b<W.heap.size/\W.cell? ⟨b,o+i,none⟩=some (.slice (M.vs i).A (M.vs i).es.length (M.vs i).c)
 vin:∀i,i<M.N->VIn W (M.vs i)
 n63:M.N<=9223372036854775807
theorem MIn.to {W V:World}{M:MA}(h:MIn W M)(hb:Below W.heap.size W V):MIn V M :=
 ⟨fun i hi=>by
  obtain ⟨b,o,e,h1,h2⟩:=h.row i hi
  exact ⟨b,o,e,Nat.lt_of_lt_of_le h1 hb.size,(hb.cell (p:=⟨b,_,none⟩) h1).trans h2⟩,fun i hi=>(h.vin i hi).to hb,h.n63⟩
def rsL (vs:Nat->VA)(k:Nat):List Rat:=List.replicate (vs k).es.length 0
def lngM (M:MA):Bool:=decide (8<M.N)||decide (8<colsN (rsL M.vs) M.N)||((List.range M.N).map M.vs).any (fun v=>lngV v.es)
theorem vlong_n {w:World}{M:MA}(h:MIn w M){r:Bool}(hr:((List.range M.N).map M.vs).any (fun v=>lngV v.es)=r) :
  Calls Tryz.prog 27 #[.slice M.P M.N M.C] w fun e w'=>e=.returned (.bool r)/\Below w.heap.size w w':=by
 have hl:((List.range M.N).map M.vs).length=M.N:=by simp
 have h1:=vlong_o M.P ((List.range M.N).map M.vs) M.C w (fun i hi=>by
  rw[hl]at hi
  obtain ⟨b,o,e,hb,h⟩:=h.row i hi
  exact ⟨b,o,e,hb,by simpa using h⟩) (fun v hm=>by
  obtain ⟨i,hi,rfl⟩:=List.mem_map.1 hm
  exact h.vin i (List.mem_range.1 hi)) (by rw[hl];exact h.n63) hr
 rwa [hl]at h1
theorem mcols_n {w:World}{M:MA}(h:MIn w M)(h8:M.N<=8) :
  Calls Tryz.prog 14 #[.slice M.P M.N M.C] w fun e w'=>e=.returned (.int .i64 (colsN (rsL M.vs) M.N))/\Below w.heap.size w w' :=
 rcols_m (fun k hk=>by
  obtain ⟨b,o,e,h1,h2⟩:=h.row k hk
  exact ⟨b,o,(M.vs k).A,(M.vs k).c,e,h1,by rw[h2];simp[rsL]⟩) (by omega) (fun k hk=>by
  have h1:=(h.vin k hk).cap
  have h2:=(h.vin k hk).c63
  simp only[rsL,List.length_replicate]
  omega)
theorem long4_o (P:Option Addr)(ms:List MA)(cap:Nat)(w:World)(hc:∀i (h:i<ms.length),∃b o,P=some ⟨b,o,none⟩/\b<w.heap.size/\w.cell? ⟨b,o+i,none⟩=some (.slice ms[i].P ms[i].N ms[i].C))(hv:∀M∈ms,MIn w M)(hl:ms.length<=1000){r:Bool}(hr:ms.any lngM=r) :
  Calls Tryz.prog 10 #[.slice P ms.length cap] w fun e w'=>e=.returned (.bool r)/\Below w.heap.size w w':=by
 have HC:=Hd hc
 have HV:=Hd hv
 have HR:=Hd hr
 obtain ⟨N,hN⟩:∃N,ms.length=N:=⟨_,rfl⟩
 have HN:=Hd hN
 rw[hN]at hl ⊢
 have HL:=Hd hl
 clear hc hv hr hN hl
 go_enter Tryz.func10,Tryz.ntmps10
 go_wp2
 go_loopw [3] (fun i wr=>∃k:Nat,i=.int .i64 k/\k<=N/\(∀j (h:j<ms.length),j<k->lngM ms[j]=false)/\Below w.heap.size w wr) (fun i _=>N-(intOf i).toNat)
 case atStart=>exact ⟨0,rfl,Nat.zero_le _,fun j h h0=>by omega,Below.refl _ _⟩
 case round =>
  obtain ⟨k,rfl,hk,hz,hb⟩:=hrel
  by_cases hlt:k<N
  .have hk1:(0:Int)<=(k:Int):=by omega
   have hk2:(k:Int)<(N:Int):=by omega
   have hk3:(k:Int)+1<=9223372036854775807:=by have:=HL.out;omega
   have hkm:k<ms.length:=by rw[HN.out];exact hlt
   obtain ⟨b,o,rfl,hbo,hcc⟩:=HC.out k hkm
   have fc:=(hb.cell (p:=⟨b,_,none⟩) hbo).trans hcc
   have hM:=(HV.out _ (List.getElem_mem hkm)).to hb
   have HT:Hid (lngM ms[k]=true->r=true):=fun h=>by rw[<-HR.out];exact List.any_eq_true.2 ⟨_,List.getElem_mem hkm,h⟩
   have HZ:Hid (lngM ms[k]=false->∀j (h:j<ms.length),j<k+1->lngM ms[j]=false):=fun h j hj hjk=>by
    by_cases e:j=k
    .subst e;exact h
    .exact hz j hj (by omega)
   have HB:=Hd hb
   have HLT:=Hd hlt
   obtain ⟨M,hMM⟩:∃M,ms[k]=M:=⟨_,rfl⟩
   rw[hMM]at fc hM HT HZ
   clear hb hlt hk hz hkm hbo hcc hMM
   have HMI:=Hd hM
   have hn63:=hM.n63
   clear hM
   by_cases h8:8<M.N
   .have d8:(8:Int)<(M.N:Int):=by omega
    have hr:r=true:=HT.out (by unfold lngM;rw[decide_eq_true h8];rfl)
    have HRT:=Hd hr
    clear h8 hn63 hr
    go_wp2
    go_ret
    exact ⟨by rw[HRT.out];rfl,HB.out⟩
   .have d8:¬(8:Int)<(M.N:Int):=by omega
    have hCO:=Hd (mcols_n HMI.out (by omega))
    have H8:=Hd h8
    clear h8 hn63
    go_wp2_with fail
    refine hCO.out.mono ?_
    rintro e V ⟨rfl,bb⟩
    have fV:=(bb.cell (p:=⟨b,o+k,none⟩) (World.block_lt_of_cell? wr _ fc)).trans fc
    have HMV:=Hd (HMI.out.to bb)
    replace HB:=Hxb HB bb
    clear bb hCO fc HMI
    obtain ⟨x,hx⟩:∃x,colsN (rsL M.vs) M.N=x:=⟨_,rfl⟩
    have HXX:=Hd hx
    rw[hx]
    clear hx
    by_cases hx8:8<x
    .have e8:(8:Int)<(x:Int):=by omega
     have e9:decide ((8:Int)<(x:Int))=true:=decide_eq_true e8
     have hr:r=true:=HT.out (by unfold lngM;rw[HXX.out,decide_eq_true hx8];simp)
     have HRT:=Hd hr
     clear hx8 hr
     go_wp2
     go_ret
     exact ⟨by rw[HRT.out];rfl,HB.out⟩
    .have e8:¬(8:Int)<(x:Int):=by omega
     have e9:decide ((8:Int)<(x:Int))=false:=decide_eq_false e8
     have HX8:=Hd hx8
     clear hx8
     obtain ⟨y,hy⟩:∃y,((List.range M.N).map M.vs).any (fun v=>lngV v.es)=y:=⟨_,rfl⟩
     have hLO:=Hd (vlong_n HMV.out hy)
     have HLM:Hid (lngM M=y):=by
      show _=_
      unfold lngM
      rw[HXX.out,decide_eq_false H8.out,decide_eq_false HX8.out,hy]
      rfl
     clear hy
     go_wp2_with fail
     refine hLO.out.mono ?_
     rintro e V2 ⟨rfl,bb⟩
     replace HB:=Hxb HB bb
     clear bb hLO fV HMV
     cases y with
     | true =>
      have hr:r=true:=HT.out HLM.out
      have HRT:=Hd hr
      clear hr
      go_wp2
      go_ret
      exact ⟨by rw[HRT.out];rfl,HB.out⟩
     | false =>
      have HZ2:=Hd (HZ.out HLM.out)
      clear HT HZ HLM HXX H8 HX8 HC HV HR
      go_wp2
      go_roundw
      case rel=>exact ⟨k+1,by simp,HLT.out,HZ2.out,HB.out⟩
      case measure=>have:=HLT.out;simp[intOf];omega
  .obtain rfl:k=N:=by omega
   have HB:=Hd hb
   have hr:r=false:=by
    rw[<-HR.out]
    refine List.any_eq_false.2 fun M hm=>?_
    obtain ⟨j,hj,rfl⟩:=List.getElem_of_mem hm
    rw[hz j hj (by rw[<-HN.out];exact hj)]
    decide
   have HRT:=Hd hr
   clear hb hlt hk hz hr
   go_wp2
   go_ret
   exact ⟨by rw[HRT.out];rfl,HB.out⟩
theorem MIn.mi {w:World}{M:MA}(h:MIn w M)(hl:lngM M=false):∃rs:Nat->List Rat,Mi w M.P M.N M.C rs 6/\M.N<=8/\∀k,k<M.N->(rs k).length<=8:=by
 unfold lngM at hl
 simp only[Bool.or_eq_false_iff,decide_eq_false_iff_not]at hl
 obtain ⟨⟨h1,h2⟩,h3⟩:=hl
 have each:∀i,i<M.N->∃r:List Rat,Vi w (M.vs i).A (M.vs i).c (M.vs i).es r 6:=fun i hi=>by
  have h4:=List.any_eq_false.1 h3 (M.vs i) (List.mem_map.2 ⟨i,List.mem_range.2 hi,rfl⟩)
  obtain ⟨rs,h5,_⟩:=(h.vin i hi).vi (by simpa using h4)
  exact ⟨rs,h5⟩
 obtain ⟨rs,hrs⟩:=Go.Deep.choose_lt each
 refine ⟨rs,⟨fun k hk=>?_,h.n63⟩,by omega,fun k hk=>?_⟩
 .obtain ⟨b,o,e,h5,h6⟩:=h.row k hk
  exact ⟨b,o,(M.vs k).A,(M.vs k).c,(M.vs k).es,e,h5,by rw[<-(hrs k hk).len];exact h6,hrs k hk⟩
 .have h5:=colsN_ge (rsL M.vs) hk
  simp only[rsL,List.length_replicate]at h5
  rw[<-(hrs k hk).len]
  omega
def intsV (ns:List Int):Array Value:=(ns.map (fun n=>Value.int .i64 n)).toArray
theorem rn_lit {W:World}{g:Nat}{ns:List Int}{t:TypeId}(h:Hp W g (.cells (intsV ns) t (0,0))):Rn W (some ⟨g,0,none⟩) ns:=fun k hk=>⟨g,0,rfl,by
 rw[Nat.zero_add,h.cellAt k]
 simp[intsV,hk]⟩
def mR (l:List (List Int))(k:Nat):List Rat:=ratsOf (l.getD k [])
def i64s (l:List (List Int)):Bool:=l.all fun r=>decide (r.length<=100)&&r.all fun n=>decide (-9223372036854775808<=n)&&decide (n<=9223372036854775807)
theorem i64s_row {l:List (List Int)}(h:i64s l=true)(k:Nat):(l.getD k []).length<=100/\∀n∈l.getD k [],-9223372036854775808<=n/\n<=9223372036854775807:=by
 by_cases hk:k<l.length
 .have h1:=(List.all_eq_true.1 h) _ (List.getElem_mem hk)
  rw[show l.getD k []=l[k] from by simp[List.getD,hk]]
  simp only[Bool.and_eq_true,decide_eq_true_eq,List.all_eq_true]at h1
  exact ⟨h1.1,fun n hn=>h1.2 n hn⟩
 .rw[show l.getD k []=[] from by simp[List.getD,Nat.le_of_not_lt hk]]
  exact ⟨by decide,fun n hn=>by cases hn⟩
theorem mlit_any {w W:World}{g:Nat}{l:List (List Int)}{cs:Array Value}(hb:Below w.heap.size w W)(hg:Hp W g (.cells cs 60 (0,0)))(hr:∀k,k<l.length->∃A c,cs[k]?=some (.slice A (l.getD k []).length c)/\Rn W A (l.getD k []))(hl:l.length<=100)(h64:i64s l=true){n:Nat}(hn:l.length=n) :
  Calls Tryz.prog 42 #[.slice (some ⟨g,0,none⟩) n n] W (MR w n (mR l)):=by
 subst hn
 have h:=rints4_m (w:=W) (P:=some ⟨g,0,none⟩) (N:=l.length) (C:=l.length) (ns:=fun k=>l.getD k []) ⟨fun k hk=>by
  obtain ⟨A,c,h1,h2⟩:=hr k hk
  exact ⟨g,0,A,c,rfl,hg.lt,by rw[Nat.zero_add,hg.cellAt k];exact h1,h2⟩,fun k _=>(i64s_row h64 k).2,fun k _=>by have:=(i64s_row h64 k).1;omega⟩ (by omega)
 refine h.mono ?_
 rintro e V ⟨P,C,rfl,hm,bb⟩
 exact ⟨P,C,rfl,hm,Bxb hb bb⟩
theorem mlit1 {w:World}(a:List Int)(h:i64s [a]=true) :
  Calls Tryz.prog 42 #[.slice (some ⟨w.heap.size+1,0,none⟩) 1 1] ((w.alloc (.cells (intsV a) 2)).alloc (.cells #[.slice (some ⟨w.heap.size,0,none⟩) a.length a.length] 60)) (MR w 1 (mR [a])):=by
 have h1:=(Hp.new w (intsV a) 2).alloc (.cells #[.slice (some ⟨w.heap.size,0,none⟩) a.length a.length] 60)
 have h2:=Hp.new (w.alloc (.cells (intsV a) 2)) #[.slice (some ⟨w.heap.size,0,none⟩) a.length a.length] 60
 rw[World.size_alloc]at h2
 exact mlit_any (((Below.refl _ _).alloc (Nat.le_refl _) _).alloc (by simp) _) h2 (fun k hk=>by
  obtain rfl:k=0:=by simp at hk;omega
  exact ⟨_,_,rfl,rn_lit h1⟩) (by simp) h rfl
theorem mlit2 {w:World}(a b:List Int)(h:i64s [a,b]=true) :
  Calls Tryz.prog 42 #[.slice (some ⟨w.heap.size+1+1,0,none⟩) 2 2] (((w.alloc (.cells (intsV a) 2)).alloc (.cells (intsV b) 2)).alloc (.cells #[.slice (some ⟨w.heap.size,0,none⟩) a.length a.length,.slice (some ⟨w.heap.size+1,0,none⟩) b.length b.length] 60)) (MR w 2 (mR [a,b])):=by
 have h1:=((Hp.new w (intsV a) 2).alloc (.cells (intsV b) 2)).alloc (.cells #[.slice (some ⟨w.heap.size,0,none⟩) a.length a.length,.slice (some ⟨w.heap.size+1,0,none⟩) b.length b.length] 60)
 have h2:=(Hp.new (w.alloc (.cells (intsV a) 2)) (intsV b) 2).alloc (.cells #[.slice (some ⟨w.heap.size,0,none⟩) a.length a.length,.slice (some ⟨w.heap.size+1,0,none⟩) b.length b.length] 60)
 have h3:=Hp.new ((w.alloc (.cells (intsV a) 2)).alloc (.cells (intsV b) 2)) #[.slice (some ⟨w.heap.size,0,none⟩) a.length a.length,.slice (some ⟨w.heap.size+1,0,none⟩) b.length b.length] 60
 rw[World.size_alloc]at h2
 rw[World.size_alloc,World.size_alloc]at h3
 exact mlit_any ((((Below.refl _ _).alloc (Nat.le_refl _) _).alloc (by simp) _).alloc (by simp;omega) _) h3 (fun k hk=>by
  match k,hk with
  | 0,_=>exact ⟨_,_,rfl,rn_lit h1⟩
  | 1,_=>exact ⟨_,_,rfl,rn_lit h2⟩) (by simp) h rfl
theorem rlit {w:World}(a:List Int)(h:i64s [a]=true){n:Nat}(hn:a.length=n) :
  Calls Tryz.prog 50 #[.slice (some ⟨w.heap.size,0,none⟩) n n] (w.alloc (.cells (intsV a) 2)) fun e w'=>∃A c es,e=.returned (.slice A n c)/\Vc w' A c es (ratsOf a)/\Below w.heap.size w w':=by
 subst hn
 have hb:Below w.heap.size w (w.alloc (.cells (intsV a) 2)):=(Below.refl _ _).alloc (Nat.le_refl _) _
 have h0:=i64s_row h 0
 refine (rints_v (c:=a.length) (rn_lit (Hp.new w (intsV a) 2)) h0.2 (by have:=h0.1;simp at this;omega)).mono ?_
 rintro e V ⟨A,c,es,rfl,hv,bb⟩
 exact ⟨A,c,es,by rw[ratsOf_length],hv,Bxb hb bb⟩
theorem plit {w:World}(a:List Int)(h:i64s [a]=true){n:Nat}(hn:a.length=n) :
  Calls Tryz.prog 49 #[.slice (some ⟨w.heap.size,0,none⟩) n n] (w.alloc (.cells (intsV a) 2)) fun e w'=>∃A c es,e=.returned (.slice A n c)/\Vc w' A c es (ratsOf a)/\Below w.heap.size w w':=by
 subst hn
 have hb:Below w.heap.size w (w.alloc (.cells (intsV a) 2)):=(Below.refl _ _).alloc (Nat.le_refl _) _
 have h0:=i64s_row h 0
 refine (ints_v (c:=a.length) (rn_lit (Hp.new w (intsV a) 2)) h0.2 (by have:=h0.1;simp at this;omega)).mono ?_
 rintro e V ⟨A,c,es,rfl,hv,bb⟩
 exact ⟨A,c,es,by rw[ratsOf_length],hv,Bxb hb bb⟩
theorem small_m {w:World} : Calls Tryz.prog 48 #[] w (MR w 2 (mR [[1,2],[3]])):=by
 go_enter Tryz.func48,Tryz.ntmps48
 go_wp2_with fail
 refine (mlit2 [1,2] [3] (by decide +kernel)).mono ?_
 rintro e V ⟨P,C,rfl,hm,bb⟩
 have HB:=Hd bb
 clear bb
 go_wp2
 go_ret
 exact ⟨P,C,rfl,hm,HB.out⟩
theorem malive_any (w:World):Calls Tryz.prog 11 #[] w fun e w'=>e=.returned (.bool true)/\Below w.heap.size w w':=by
 have MQ:∀k,k<2->∀i,Qm 2 ((mR [[1,2],[3]] k).getD i 0):=fun k hk i=>rats_qm (by match k,hk with
  | 0,_=>decide +kernel
  | 1,_=>decide +kernel) i
 have ML:∀k,k<2->(mR [[1,2],[3]] k).length<=2:=fun k hk=>by match k,hk with
  | 0,_=>decide +kernel
  | 1,_=>decide +kernel
 have hc:colsN (mR [[1,2],[3]]) 2=2:=by decide +kernel
 have HMI:=Hd (fun (V:World) (P:Option Addr) (C:Nat) (h:Mc V P 2 C (mR [[1,2],[3]]))=>h.mi (m:=2) (by decide) MQ)
 have HCO:=Hd (fun (V:World) (P:Option Addr) (C:Nat) (h:Mc V P 2 C (mR [[1,2],[3]]))=>cols_m (C:=C) h.rs (by decide) (fun k hk=>Nat.le_trans (ML k hk) (by decide)))
 have HMV:=Hd (fun (V:World) (P A:Option Addr) (C c:Nat) (es:List E4) (h:Mc V P 2 C (mR [[1,2],[3]])) (hv:Vc V A c es (ratsOf [5,7]))=>mulVec_m (c':=c) (HMI.out _ _ _ h) (hv.vi (fun i=>rats_qm (by decide +kernel) i) (by decide)) (by decide) (by decide) (by decide) (fun k hk=>Nat.le_trans (ML k hk) (by decide)) (by decide) (fun k hk=>by match k,hk with
  | 0,_=>decide +kernel
  | 1,_=>decide +kernel))
 have HVM:=Hd (fun (V:World) (P A:Option Addr) (C c:Nat) (es:List E4) (h:Mc V P 2 C (mR [[1,2],[3]])) (hv:Vc V A c es (ratsOf [1,1]))=>vecMul_m (c':=c) (C:=C) (hv.vi (fun i=>rats_qm (by decide +kernel) i) (by decide)) (HMI.out _ _ _ h) (by decide) (by decide) (fun k hk=>Nat.le_trans (ML k hk) (by decide)) (by decide) (by decide) (by decide))
 have HTU:=Hd (fun (V:World) (P:Option Addr) (C:Nat) (h:Mc V P 2 C (mR [[1,2],[3]]))=>turn_m (HMI.out _ _ _ h) (by decide) (by decide) (fun k hk=>Nat.le_trans (Nat.succ_le_succ (ML k hk)) (by decide)))
 have HMU:=Hd (fun (V:World) (P:Option Addr) (C:Nat) (h:Mc V P 2 C (mR [[1,2],[3]]))=>mul_m (HMI.out _ _ _ h) (HMI.out _ _ _ h) (by decide) (by decide) (by decide) (by decide) (fun k hk=>Nat.le_trans (ML k hk) (by decide)) (fun k hk=>Nat.le_trans (ML k hk) (by decide)) (fun k hk=>by match k,hk with
  | 0,_=>decide +kernel
  | 1,_=>decide +kernel))
 have HCA:=Hd (fun (V:World) (P Q:Option Addr) (C D:Nat) (h:Mc V P 2 C (mR [[1,2],[3]])) (h9:Mc V Q 1 D (mR [[9]]))=>cat_m (HMI.out _ _ _ h) (h9.mi (m:=2) (by decide) (fun k hk i=>rats_qm (by match k,hk with
  | 0,_=>decide +kernel) i)) (by decide) (by decide) (by decide) (fun k hk=>Nat.le_trans (ML k hk) (by decide)) (fun k hk=>by match k,hk with
  | 0,_=>decide +kernel))
 simp only[hc]at HCO HTU HVM HMU HCA
 simp only[show max 2 1=2 from rfl]at HCA
 have HB:=Hd (Below.refl w.heap.size w)
 clear MQ ML hc HMI
 go_enter Tryz.func11,Tryz.ntmps11
 go_wp2_with fail
 refine (small_m).mono ?_
 rintro e V ⟨_,_,rfl,hm,bb⟩
 replace HB:=Hxb HB bb
 clear bb
 go_wp2_with fail
 refine (HCO.out _ _ _ hm).mono ?_
 rintro e V ⟨rfl,bb⟩
 replace hm:=hm.to bb
 replace HB:=Hxb HB bb
 clear bb
 go_wp2_with fail
 refine (plit [5,7] (by decide +kernel) rfl).mono ?_
 rintro e V ⟨_,_,_,rfl,r,bb⟩
 replace hm:=hm.to bb
 replace HB:=Hxb HB bb
 clear bb
 go_wp2_with fail
 refine (HMV.out _ _ _ _ _ _ hm r).mono ?_
 rintro e V ⟨_,_,_,rfl,s,bb⟩
 clear r
 replace hm:=hm.to bb
 replace HB:=Hxb HB bb
 clear bb
 go_wp2_with fail
 refine (rlit [19,15] (by decide +kernel) rfl).mono ?_
 rintro e V ⟨_,_,_,rfl,r,bb⟩
 replace hm:=hm.to bb
 replace s:=s.to bb
 replace HB:=Hxb HB bb
 clear bb
 go_wp2_with fail
 refine (vis_v s r (by decide +kernel) (v:=true) (by decide +kernel)).mono ?_
 rintro e V ⟨rfl,bb⟩
 clear s r
 replace hm:=hm.to bb
 replace HB:=Hxb HB bb
 clear bb
 go_wp2_with fail
 refine (plit [1,1] (by decide +kernel) rfl).mono ?_
 rintro e V ⟨_,_,_,rfl,r,bb⟩
 replace hm:=hm.to bb
 replace HB:=Hxb HB bb
 clear bb
 go_wp2_with fail
 refine (HVM.out _ _ _ _ _ _ hm r).mono ?_
 rintro e V ⟨_,_,_,rfl,s,bb⟩
 clear r
 replace hm:=hm.to bb
 replace HB:=Hxb HB bb
 clear bb
 go_wp2_with fail
 refine (rlit [4,2] (by decide +kernel) rfl).mono ?_
 rintro e V ⟨_,_,_,rfl,r,bb⟩
 replace hm:=hm.to bb
 replace s:=s.to bb
 replace HB:=Hxb HB bb
 clear bb
 go_wp2_with fail
 refine (vis_v s r (by decide +kernel) (v:=true) (by decide +kernel)).mono ?_
 rintro e V ⟨rfl,bb⟩
 clear s r
 replace hm:=hm.to bb
 replace HB:=Hxb HB bb
 clear bb
 go_wp2_with fail
 refine (HTU.out _ _ _ hm).mono ?_
 rintro e V ⟨_,_,rfl,s,bb⟩
 replace hm:=hm.to bb
 replace HB:=Hxb HB bb
 clear bb
 go_wp2_with fail
 refine (mlit2 [1,3] [2,0] (by decide +kernel)).mono ?_
 rintro e V ⟨_,_,rfl,r,bb⟩
 replace hm:=hm.to bb
 replace s:=s.to bb
 replace HB:=Hxb HB bb
 clear bb
 go_wp2_with fail
 refine (is4_t s r (fun k hk=>by match k,hk with
  | 0,_=>decide +kernel
  | 1,_=>decide +kernel) (fun k hk=>by match k,hk with
  | 0,_=>decide +kernel
  | 1,_=>decide +kernel)).mono ?_
 rintro e V ⟨rfl,bb⟩
 clear s r
 replace hm:=hm.to bb
 replace HB:=Hxb HB bb
 clear bb
 go_wp2_with fail
 refine (HMU.out _ _ _ hm).mono ?_
 rintro e V ⟨_,_,rfl,s,bb⟩
 replace hm:=hm.to bb
 replace HB:=Hxb HB bb
 clear bb
 go_wp2_with fail
 refine (mlit2 [7,2] [3,6] (by decide +kernel)).mono ?_
 rintro e V ⟨_,_,rfl,r,bb⟩
 replace hm:=hm.to bb
 replace s:=s.to bb
 replace HB:=Hxb HB bb
 clear bb
 go_wp2_with fail
 refine (is4_t s r (fun k hk=>by match k,hk with
  | 0,_=>decide +kernel
  | 1,_=>decide +kernel) (fun k hk=>by match k,hk with
  | 0,_=>decide +kernel
  | 1,_=>decide +kernel)).mono ?_
 rintro e V ⟨rfl,bb⟩
 clear s r
 replace hm:=hm.to bb
 replace HB:=Hxb HB bb
 clear bb
 go_wp2_with fail
 refine (mlit1 [9] (by decide +kernel)).mono ?_
 rintro e V ⟨_,_,rfl,h9,bb⟩
 replace hm:=hm.to bb
 replace HB:=Hxb HB bb
 clear bb
 go_wp2_with fail
 refine (HCA.out _ _ _ _ _ hm h9).mono ?_
 rintro e V ⟨_,_,rfl,s,bb⟩
 clear h9
 replace hm:=hm.to bb
 replace HB:=Hxb HB bb
 clear bb
 go_wp2_with fail
 refine (mlit2 [1,2,9] [3,0,0] (by decide +kernel)).mono ?_
 rintro e V ⟨_,_,rfl,r,bb⟩
 replace hm:=hm.to bb
 replace s:=s.to bb
 replace HB:=Hxb HB bb
 clear bb
 go_wp2_with fail
 refine (is4_t s r (fun k hk=>by match k,hk with
  | 0,_=>decide +kernel
  | 1,_=>decide +kernel) (fun k hk=>by match k,hk with
  | 0,_=>decide +kernel
  | 1,_=>decide +kernel)).mono ?_
 rintro e V ⟨rfl,bb⟩
 clear s r
 replace hm:=hm.to bb
 replace HB:=Hxb HB bb
 clear bb
 go_wp2
 go_ret
 exact ⟨rfl,HB.out⟩
end Go.Proofs.YtglhdielkkhefaaGreat
