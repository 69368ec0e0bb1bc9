/- Parts: 1. -/
import Derived.Test.YtiifpobhmnplaaaGreatVs23
import Derived.Test.YtiifpobhmnplaaaGreatVs25
set_option linter.unusedVariables false
set_option linter.unusedSimpArgs false
set_option maxRecDepth 100000
set_option maxHeartbeats 40000000

namespace Go.Proofs.YtiifpobhmnplaaaGreat
open Go.RowKit Go.Shelf
theorem SumIn.to {W V:World}{P:Option Addr}{N m:Nat}{As:Nat->Option Addr}{cs:Nat->Nat}{es:Nat->List E4}{rs:Nat->List Rat}(h:SumIn W P N As cs es rs m)(hb:Below W.heap.size W V):SumIn V P N As cs es rs m :=
 ⟨fun k hk=>by
  obtain ⟨b,o,e,hc⟩:=h.cell k hk
  exact ⟨b,o,e,(hb.cell (p:=⟨b,o+k,none⟩) (World.block_lt_of_cell? W _ hc)).trans hc⟩,fun k hk=>(h.vec k hk).to hb⟩
theorem Rn.to {W V:World}{A:Option Addr}{ns:List Int}(h:Rn W A ns)(hb:Below W.heap.size W V):Rn V A ns:=fun k hk=>by
 obtain ⟨b,o,e,hc⟩:=h k hk
 exact ⟨b,o,e,(hb.cell (p:=⟨b,o+k,none⟩) (World.block_lt_of_cell? W _ hc)).trans hc⟩
def RowIn (W:World)(P:Option Addr)(vs:List VA):Prop:=∀i (h:i<vs.length),∃b o,P=some ⟨b,o,none⟩/\b<W.heap.size/\W.cell? ⟨b,o+i,none⟩=some (.slice vs[i].A vs[i].es.length vs[i].c)
theorem RowIn.to {W V:World}{P:Option Addr}{vs:List VA}(h:RowIn W P vs)(hb:Below W.heap.size W V):RowIn V P vs:=fun i hi=>by
 obtain ⟨b,o,e,hB,hc⟩:=h i hi
 exact ⟨b,o,e,Nat.lt_of_lt_of_le hB hb.size,(hb.cell (p:=⟨b,o+i,none⟩) hB).trans hc⟩
theorem vbuild_a {w:World}{A1 A2 P:Option Addr}{c1 c2 C:Nat}{es1:List E4}{n k:Int}{ns:List Int}{vs:List VA}(v1:VIn w ⟨A1,c1,es1⟩)(hR:RowIn w P vs)(hvs:∀v∈vs,VIn w v)(hvl:vs.length<=9223372036854775807)(hnl:ns.length<=9223372036854775807)(hl1:lngV es1=true) :
  Calls Tryz.prog 5 #[.slice A1 es1.length c1,.int .i64 n,.int .i64 k,.slice A2 ns.length c2,.slice P vs.length C] w fun e w'=>e=.returned (.bool true)/\Below w.heap.size w w':=by
 obtain ⟨W0,hW0⟩:∃W0,W0=w.alloc (.cells #[.slice A1 es1.length c1] 27):=⟨_,rfl⟩
 have hbw:Below w.heap.size w W0:=by rw[hW0];exact (Below.refl _ _).alloc (Nat.le_refl _) _
 have hp:Hp W0 w.heap.size (.cells #[.slice A1 es1.length c1] 27 (0,0)):=by rw[hW0];exact Hp.new _ _ _
 have HL:=Hd (vlong_o (some ⟨w.heap.size,0,none⟩) [⟨A1,c1,es1⟩] 1 W0 (fun i hi=>by
  match i,hi with
  | 0,_=>exact ⟨_,_,rfl,hp.lt,(hp.cellAt _).trans rfl⟩) (fun v hv=>by
  obtain rfl:=List.mem_singleton.1 hv
  exact v1.to hbw) (by simp) (r:=true) (by simpa using hl1))
 have HW0:=Hd hW0
 have HB:=Hd hbw
 clear hW0 hbw hp hl1 v1 hR hvs
 go_enter Tryz.func5,Tryz.ntmps5
 go_wp2_with fail
 rw[<-HW0.out]
 clear HW0
 refine HL.out.mono ?_
 rintro e W1 ⟨rfl,bb⟩
 replace HB:=Hxb HB bb
 clear bb HL
 go_wp2_with fail
 refine (valive_any _).mono ?_
 rintro e W9 ⟨rfl,bb⟩
 replace HB:=Hxb HB bb
 clear bb
 go_wp2
 go_ret
 exact ⟨rfl,HB.out⟩
theorem vbuild_b {w:World}{A1 A2 P:Option Addr}{c1 c2 C:Nat}{es1:List E4}{n k:Int}{ns:List Int}{vs:List VA}(v1:VIn w ⟨A1,c1,es1⟩)(hR:RowIn w P vs)(hvs:∀v∈vs,VIn w v)(hvl:vs.length<=9223372036854775807)(hnl:ns.length<=9223372036854775807)(hl1:lngV es1=false)(hl2:vs.any (fun v=>lngV v.es)=true) :
  Calls Tryz.prog 5 #[.slice A1 es1.length c1,.int .i64 n,.int .i64 k,.slice A2 ns.length c2,.slice P vs.length C] w fun e w'=>e=.returned (.bool true)/\Below w.heap.size w w':=by
 obtain ⟨W0,hW0⟩:∃W0,W0=w.alloc (.cells #[.slice A1 es1.length c1] 27):=⟨_,rfl⟩
 have hbw:Below w.heap.size w W0:=by rw[hW0];exact (Below.refl _ _).alloc (Nat.le_refl _) _
 have hp:Hp W0 w.heap.size (.cells #[.slice A1 es1.length c1] 27 (0,0)):=by rw[hW0];exact Hp.new _ _ _
 have HL:=Hd (vlong_o (some ⟨w.heap.size,0,none⟩) [⟨A1,c1,es1⟩] 1 W0 (fun i hi=>by
  match i,hi with
  | 0,_=>exact ⟨_,_,rfl,hp.lt,(hp.cellAt _).trans rfl⟩) (fun v hv=>by
  obtain rfl:=List.mem_singleton.1 hv
  exact v1.to hbw) (by simp) (r:=false) (by simpa using hl1))
 have HM:=Hd (fun (V:World) (hV:Below w.heap.size w V)=>vlong_o P vs C V (hR.to hV) (fun v hv=>(hvs v hv).to hV) hvl (r:=true) hl2)
 have HW0:=Hd hW0
 have HB:=Hd hbw
 clear hW0 hbw hp hl1 v1 hR hvs hl2
 go_enter Tryz.func5,Tryz.ntmps5
 go_wp2_with fail
 rw[<-HW0.out]
 clear HW0
 refine HL.out.mono ?_
 rintro e W1 ⟨rfl,bb⟩
 replace HB:=Hxb HB bb
 clear bb HL
 go_wp2_with fail
 refine (HM.out W1 HB.out).mono ?_
 rintro e W2 ⟨rfl,bb⟩
 replace HB:=Hxb HB bb
 clear bb HM
 go_wp2_with fail
 refine (valive_any _).mono ?_
 rintro e W9 ⟨rfl,bb⟩
 replace HB:=Hxb HB bb
 clear bb
 go_wp2
 go_ret
 exact ⟨rfl,HB.out⟩
theorem vbuild_c {w:World}{A1 A2 P:Option Addr}{c1 c2 C:Nat}{es1:List E4}{n k:Int}{ns:List Int}{vs:List VA}(v1:VIn w ⟨A1,c1,es1⟩)(hR:RowIn w P vs)(hvs:∀v∈vs,VIn w v)(hvl:vs.length<=9223372036854775807)(hnl:ns.length<=9223372036854775807)(hl1:lngV es1=false)(hl2:vs.any (fun v=>lngV v.es)=false)(h8:8<vs.length) :
  Calls Tryz.prog 5 #[.slice A1 es1.length c1,.int .i64 n,.int .i64 k,.slice A2 ns.length c2,.slice P vs.length C] w fun e w'=>e=.returned (.bool true)/\Below w.heap.size w w':=by
 obtain ⟨W0,hW0⟩:∃W0,W0=w.alloc (.cells #[.slice A1 es1.length c1] 27):=⟨_,rfl⟩
 have hbw:Below w.heap.size w W0:=by rw[hW0];exact (Below.refl _ _).alloc (Nat.le_refl _) _
 have hp:Hp W0 w.heap.size (.cells #[.slice A1 es1.length c1] 27 (0,0)):=by rw[hW0];exact Hp.new _ _ _
 have HL:=Hd (vlong_o (some ⟨w.heap.size,0,none⟩) [⟨A1,c1,es1⟩] 1 W0 (fun i hi=>by
  match i,hi with
  | 0,_=>exact ⟨_,_,rfl,hp.lt,(hp.cellAt _).trans rfl⟩) (fun v hv=>by
  obtain rfl:=List.mem_singleton.1 hv
  exact v1.to hbw) (by simp) (r:=false) (by simpa using hl1))
 have HM:=Hd (fun (V:World) (hV:Below w.heap.size w V)=>vlong_o P vs C V (hR.to hV) (fun v hv=>(hvs v hv).to hV) hvl (r:=false) hl2)
 have HW0:=Hd hW0
 have HB:=Hd hbw
 clear hW0 hbw hp hl1 v1 hR hvs hl2
 go_enter Tryz.func5,Tryz.ntmps5
 go_wp2_with fail
 rw[<-HW0.out]
 clear HW0
 refine HL.out.mono ?_
 rintro e W1 ⟨rfl,bb⟩
 replace HB:=Hxb HB bb
 clear bb HL
 go_wp2_with fail
 refine (HM.out W1 HB.out).mono ?_
 rintro e W2 ⟨rfl,bb⟩
 replace HB:=Hxb HB bb
 clear bb HM
 have d8:(8:Int)<(vs.length:Int):=by omega
 go_wp2_with fail
 refine (valive_any _).mono ?_
 rintro e W9 ⟨rfl,bb⟩
 replace HB:=Hxb HB bb
 clear bb
 go_wp2
 go_ret
 exact ⟨rfl,HB.out⟩
theorem vbuild_d {w:World}{A1 A2 P:Option Addr}{c1 c2 C:Nat}{es1:List E4}{n k:Int}{ns:List Int}{vs:List VA}(v1:VIn w ⟨A1,c1,es1⟩)(hR:RowIn w P vs)(hvs:∀v∈vs,VIn w v)(hvl:vs.length<=9223372036854775807)(hnl:ns.length<=9223372036854775807)(hl1:lngV es1=false)(hl2:vs.any (fun v=>lngV v.es)=false)(h8:¬8<vs.length)(hn:100<n) :
  Calls Tryz.prog 5 #[.slice A1 es1.length c1,.int .i64 n,.int .i64 k,.slice A2 ns.length c2,.slice P vs.length C] w fun e w'=>e=.returned (.bool true)/\Below w.heap.size w w':=by
 obtain ⟨W0,hW0⟩:∃W0,W0=w.alloc (.cells #[.slice A1 es1.length c1] 27):=⟨_,rfl⟩
 have hbw:Below w.heap.size w W0:=by rw[hW0];exact (Below.refl _ _).alloc (Nat.le_refl _) _
 have hp:Hp W0 w.heap.size (.cells #[.slice A1 es1.length c1] 27 (0,0)):=by rw[hW0];exact Hp.new _ _ _
 have HL:=Hd (vlong_o (some ⟨w.heap.size,0,none⟩) [⟨A1,c1,es1⟩] 1 W0 (fun i hi=>by
  match i,hi with
  | 0,_=>exact ⟨_,_,rfl,hp.lt,(hp.cellAt _).trans rfl⟩) (fun v hv=>by
  obtain rfl:=List.mem_singleton.1 hv
  exact v1.to hbw) (by simp) (r:=false) (by simpa using hl1))
 have HM:=Hd (fun (V:World) (hV:Below w.heap.size w V)=>vlong_o P vs C V (hR.to hV) (fun v hv=>(hvs v hv).to hV) hvl (r:=false) hl2)
 have HW0:=Hd hW0
 have HB:=Hd hbw
 clear hW0 hbw hp hl1 v1 hR hvs hl2
 go_enter Tryz.func5,Tryz.ntmps5
 go_wp2_with fail
 rw[<-HW0.out]
 clear HW0
 refine HL.out.mono ?_
 rintro e W1 ⟨rfl,bb⟩
 replace HB:=Hxb HB bb
 clear bb HL
 go_wp2_with fail
 refine (HM.out W1 HB.out).mono ?_
 rintro e W2 ⟨rfl,bb⟩
 replace HB:=Hxb HB bb
 clear bb HM
 have d8:¬(8:Int)<(vs.length:Int):=by omega
 go_wp2_with fail
 refine (valive_any _).mono ?_
 rintro e W9 ⟨rfl,bb⟩
 replace HB:=Hxb HB bb
 clear bb
 go_wp2
 go_ret
 exact ⟨rfl,HB.out⟩
theorem vbuild_e {w:World}{A1 A2 P:Option Addr}{c1 c2 C:Nat}{es1:List E4}{n k:Int}{ns:List Int}{vs:List VA}(v1:VIn w ⟨A1,c1,es1⟩)(hR:RowIn w P vs)(hvs:∀v∈vs,VIn w v)(hvl:vs.length<=9223372036854775807)(hnl:ns.length<=9223372036854775807)(hl1:lngV es1=false)(hl2:vs.any (fun v=>lngV v.es)=false)(h8:¬8<vs.length)(hn:¬100<n)(h50:50<ns.length) :
  Calls Tryz.prog 5 #[.slice A1 es1.length c1,.int .i64 n,.int .i64 k,.slice A2 ns.length c2,.slice P vs.length C] w fun e w'=>e=.returned (.bool true)/\Below w.heap.size w w':=by
 obtain ⟨W0,hW0⟩:∃W0,W0=w.alloc (.cells #[.slice A1 es1.length c1] 27):=⟨_,rfl⟩
 have hbw:Below w.heap.size w W0:=by rw[hW0];exact (Below.refl _ _).alloc (Nat.le_refl _) _
 have hp:Hp W0 w.heap.size (.cells #[.slice A1 es1.length c1] 27 (0,0)):=by rw[hW0];exact Hp.new _ _ _
 have HL:=Hd (vlong_o (some ⟨w.heap.size,0,none⟩) [⟨A1,c1,es1⟩] 1 W0 (fun i hi=>by
  match i,hi with
  | 0,_=>exact ⟨_,_,rfl,hp.lt,(hp.cellAt _).trans rfl⟩) (fun v hv=>by
  obtain rfl:=List.mem_singleton.1 hv
  exact v1.to hbw) (by simp) (r:=false) (by simpa using hl1))
 have HM:=Hd (fun (V:World) (hV:Below w.heap.size w V)=>vlong_o P vs C V (hR.to hV) (fun v hv=>(hvs v hv).to hV) hvl (r:=false) hl2)
 have HW0:=Hd hW0
 have HB:=Hd hbw
 clear hW0 hbw hp hl1 v1 hR hvs hl2
 go_enter Tryz.func5,Tryz.ntmps5
 go_wp2_with fail
 rw[<-HW0.out]
 clear HW0
 refine HL.out.mono ?_
 rintro e W1 ⟨rfl,bb⟩
 replace HB:=Hxb HB bb
 clear bb HL
 go_wp2_with fail
 refine (HM.out W1 HB.out).mono ?_
 rintro e W2 ⟨rfl,bb⟩
 replace HB:=Hxb HB bb
 clear bb HM
 have d8:¬(8:Int)<(vs.length:Int):=by omega
 have d50:(50:Int)<(ns.length:Int):=by omega
 go_wp2_with fail
 refine (valive_any _).mono ?_
 rintro e W9 ⟨rfl,bb⟩
 replace HB:=Hxb HB bb
 clear bb
 go_wp2
 go_ret
 exact ⟨rfl,HB.out⟩
theorem vbuild_f {w:World}{A1 A2 P:Option Addr}{c1 c2 C:Nat}{es1:List E4}{n k:Int}{ns:List Int}{vs:List VA}(v1:VIn w ⟨A1,c1,es1⟩)(hR:RowIn w P vs)(hvs:∀v∈vs,VIn w v)(hvl:vs.length<=9223372036854775807)(hnl:ns.length<=9223372036854775807){a:List Rat}{As:Nat->Option Addr}{cs:Nat->Nat}{es:Nat->List E4}{rs:Nat->List Rat}(hl1:lngV es1=false)(hl2:vs.any (fun v=>lngV v.es)=false)(h8:¬8<vs.length)(hn:¬100<n)(h50:¬50<ns.length)(w1:Vi w A1 c1 es1 a 6)(la:a.length<=20)(hRn:Rn w A2 ns)(hnb:∀n∈ns,-9223372036854775808<=n/\n<=9223372036854775807)(hS:SumIn w P vs.length As cs es rs 6)(hq:∀k i,Qm 6 ((rs k).getD i 0))(hrl:∀k,(rs k).length<=20) :
  Calls Tryz.prog 5 #[.slice A1 es1.length c1,.int .i64 n,.int .i64 k,.slice A2 ns.length c2,.slice P vs.length C] w fun e w'=>e=.returned (.bool true)/\Below w.heap.size w w':=by
 obtain ⟨W0,hW0⟩:∃W0,W0=w.alloc (.cells #[.slice A1 es1.length c1] 27):=⟨_,rfl⟩
 have hbw:Below w.heap.size w W0:=by rw[hW0];exact (Below.refl _ _).alloc (Nat.le_refl _) _
 have hp:Hp W0 w.heap.size (.cells #[.slice A1 es1.length c1] 27 (0,0)):=by rw[hW0];exact Hp.new _ _ _
 have HL:=Hd (vlong_o (some ⟨w.heap.size,0,none⟩) [⟨A1,c1,es1⟩] 1 W0 (fun i hi=>by
  match i,hi with
  | 0,_=>exact ⟨_,_,rfl,hp.lt,(hp.cellAt _).trans rfl⟩) (fun v hv=>by
  obtain rfl:=List.mem_singleton.1 hv
  exact v1.to hbw) (by simp) (r:=false) (by simpa using hl1))
 have HM:=Hd (fun (V:World) (hV:Below w.heap.size w V)=>vlong_o P vs C V (hR.to hV) (fun v hv=>(hvs v hv).to hV) hvl (r:=false) hl2)
 have B2:vs.length*(6+1)<=8*(6+1):=Nat.mul_le_mul_right _ (by omega)
 have e1:=Hd w1.len
 have G1:=Hd (fun (V:World) (hV:Below w.heap.size w V)=>vresize_v (c:=c1) (w1.to hV) (by decide) (Nat.le_trans la (by decide)) (n:=n) (by omega))
 have G2:=Hd (fun (V:World) (hV:Below w.heap.size w V)=>rfit_v (c:=c1) (w1.to hV) (by decide) (by decide) (Nat.le_trans la (by decide)) (n:=n) (by omega))
 have G3:=Hd (fun (V:World)=>vunit_v (w:=V) (n:=n) (k:=k) (by omega))
 have G4:=Hd (fun (V:World)=>runit_v (w:=V) (n:=n) (m:=k) (by omega))
 have G5:=Hd (fun (V:World) (hV:Below w.heap.size w V)=>ints_v (c:=c2) (hRn.to hV) hnb (by omega))
 have G6:=Hd (fun (V:World) (hV:Below w.heap.size w V)=>rints_v (c:=c2) (hRn.to hV) hnb (by omega))
 have G7:=Hd (fun (V:World) (hV:Below w.heap.size w V)=>vsum_any (C:=C) (hS.to hV) (by decide) hq (fun k=>Nat.le_trans (hrl k) (by decide)) (by omega))
 have G8:=Hd (fun (V:World) (hV:Below w.heap.size w V)=>rsum_v (C:=C) (hS.to hV) (by decide) hq (fun k=>Nat.le_trans (Nat.succ_le_succ (hrl k)) (by decide)) (by omega))
 have L1:Hid ((fitQ a n).length<=4398046511104):=by show _<=_;rw[fitQ_length];omega
 have L2:Hid ((unitQ n k).length<=4398046511104):=by show _<=_;rw[unitQ_length];omega
 have L3:Hid ((ratsOf ns).length<=4398046511104):=by show _<=_;rw[ratsOf_length];omega
 have L4:Hid ((sumV rs vs.length).length<=4398046511104):=Nat.le_trans (sumV_len hrl _) (by decide)
 clear B2
 have HW0:=Hd hW0
 have HB:=Hd hbw
 clear hW0 hbw hp hl1 v1 hR hvs hl2 w1 hRn hS hnb hq hrl
 go_enter Tryz.func5,Tryz.ntmps5
 go_wp2_with fail
 rw[<-HW0.out]
 clear HW0
 refine HL.out.mono ?_
 rintro e W1 ⟨rfl,bb⟩
 replace HB:=Hxb HB bb
 clear bb HL
 go_wp2_with fail
 refine (HM.out W1 HB.out).mono ?_
 rintro e W2 ⟨rfl,bb⟩
 replace HB:=Hxb HB bb
 clear bb HM
 have d8:¬(8:Int)<(vs.length:Int):=by omega
 have d50:¬(50:Int)<(ns.length:Int):=by omega
 rw[e1.out]
 clear e1
 go_wp2_with fail
 refine (G1.out _ HB.out).mono ?_
 rintro e V ⟨_,_,_,rfl,x,bb⟩
 replace HB:=Hxb HB bb
 clear bb
 go_wp2_with fail
 refine (G2.out _ HB.out).mono ?_
 rintro e V ⟨_,_,_,rfl,y,bb⟩
 replace HB:=Hxb HB bb
 replace x:=x.to bb
 clear bb
 go_wp2_with fail
 refine (vis_v x y L1.out (decide_eq_true rfl)).mono ?_
 rintro e V ⟨rfl,bb⟩
 replace HB:=Hxb HB bb
 clear bb x y
 go_wp2_with fail
 refine (G3.out _ ).mono ?_
 rintro e V ⟨_,_,_,rfl,x,bb⟩
 replace HB:=Hxb HB bb
 clear bb
 go_wp2_with fail
 refine (G4.out _ ).mono ?_
 rintro e V ⟨_,_,_,rfl,y,bb⟩
 replace HB:=Hxb HB bb
 replace x:=x.to bb
 clear bb
 go_wp2_with fail
 refine (vis_v x y L2.out (decide_eq_true rfl)).mono ?_
 rintro e V ⟨rfl,bb⟩
 replace HB:=Hxb HB bb
 clear bb x y
 go_wp2_with fail
 refine (G5.out _ HB.out).mono ?_
 rintro e V ⟨_,_,_,rfl,x,bb⟩
 replace HB:=Hxb HB bb
 clear bb
 go_wp2_with fail
 refine (G6.out _ HB.out).mono ?_
 rintro e V ⟨_,_,_,rfl,y,bb⟩
 replace HB:=Hxb HB bb
 replace x:=x.to bb
 clear bb
 go_wp2_with fail
 refine (vis_v x y L3.out (decide_eq_true rfl)).mono ?_
 rintro e V ⟨rfl,bb⟩
 replace HB:=Hxb HB bb
 clear bb x y
 go_wp2_with fail
 refine (G7.out _ HB.out).mono ?_
 rintro e V ⟨_,_,_,rfl,x,bb⟩
 replace HB:=Hxb HB bb
 clear bb
 go_wp2_with fail
 refine (G8.out _ HB.out).mono ?_
 rintro e V ⟨_,_,_,rfl,y,bb⟩
 replace HB:=Hxb HB bb
 replace x:=x.to bb
 clear bb
 go_wp2_with fail
 refine (vis_v x y L4.out (decide_eq_true rfl)).mono ?_
 rintro e V ⟨rfl,bb⟩
 replace HB:=Hxb HB bb
 clear bb x y
 go_wp2_with fail
 refine (valive_any _).mono ?_
 rintro e W9 ⟨rfl,bb⟩
 replace HB:=Hxb HB bb
 clear bb
 go_wp2
 go_ret
 exact ⟨rfl,HB.out⟩
theorem vbuild_any {w:World}{A1 A2 P:Option Addr}{c1 c2 C:Nat}{es1:List E4}{n k:Int}{ns:List Int}{vs:List VA}(v1:VIn w ⟨A1,c1,es1⟩)(hR:RowIn w P vs)(hvs:∀v∈vs,VIn w v)(hvl:vs.length<=9223372036854775807)(hnl:ns.length<=9223372036854775807)(hn2:n<=9223372036854775807)(hRn:Rn w A2 ns)(hnb:∀n∈ns,-9223372036854775808<=n/\n<=9223372036854775807) :
  Calls Tryz.prog 5 #[.slice A1 es1.length c1,.int .i64 n,.int .i64 k,.slice A2 ns.length c2,.slice P vs.length C] w fun e w'=>e=.returned (.bool true)/\Below w.heap.size w w':=by
 cases hl1:lngV es1 with
 | true=>exact vbuild_a v1 hR hvs hvl hnl hl1
 | false =>
  cases hl2:vs.any (fun v=>lngV v.es) with
  | true=>exact vbuild_b v1 hR hvs hvl hnl hl1 hl2
  | false =>
   by_cases h8:8<vs.length
   .exact vbuild_c v1 hR hvs hvl hnl hl1 hl2 h8
   .by_cases hn:100<n
    .exact vbuild_d v1 hR hvs hvl hnl hl1 hl2 h8 hn
    .by_cases h50:50<ns.length
     .exact vbuild_e v1 hR hvs hvl hnl hl1 hl2 h8 hn h50
     .obtain ⟨a,w1,la⟩:=v1.vi hl1
      have each:∀i,i<vs.length->∃r:List Rat,(Vi w (vs.getD i ⟨none,0,[]⟩).A (vs.getD i ⟨none,0,[]⟩).c (vs.getD i ⟨none,0,[]⟩).es r 6/\r.length<=20):=fun i hi=>by
       have hm:vs.getD i ⟨none,0,[]⟩∈vs:=by rw[show vs.getD i ⟨none,0,[]⟩=vs[i] from by simp[List.getD,hi]];exact List.getElem_mem hi
       exact (hvs _ hm).vi (by simpa using List.any_eq_false.1 hl2 _ hm)
      obtain ⟨r,hr⟩:=Go.Deep.choose_lt each
      have hb:∀k,k<vs.length->(if k<vs.length then r k else [])=r k:=fun k hk=>if_pos hk
      refine vbuild_f (rs:=fun k=>if k<vs.length then r k else []) (As:=fun i=>(vs.getD i ⟨none,0,[]⟩).A) (cs:=fun i=>(vs.getD i ⟨none,0,[]⟩).c) (es:=fun i=>(vs.getD i ⟨none,0,[]⟩).es) v1 hR hvs hvl hnl hl1 hl2 h8 hn h50 w1 la hRn hnb ⟨fun i hi=>?_,fun i hi=>?_⟩ (fun i j=>?_) (fun i=>?_)
      .obtain ⟨b,o,e,_,hc⟩:=hR i hi
       refine ⟨b,o,e,hc.trans ?_⟩
       show _=some (Value.slice _ (if i<vs.length then r i else []).length _)
       rw[hb i hi,<-(hr i hi).1.len,show vs.getD i ⟨none,0,[]⟩=vs[i] from by simp[List.getD,hi]]
      .show Vi w _ _ _ (if i<vs.length then r i else []) 6
       rw[hb i hi]
       exact (hr i hi).1
      .by_cases hi:i<vs.length
       .show Qm 6 ((if i<vs.length then r i else []).getD j 0)
        rw[hb i hi]
        exact ((hr i hi).1.el j).qm (by decide)
       .show Qm 6 ((if i<vs.length then r i else []).getD j 0)
        rw[if_neg hi]
        exact Qm.zero (by decide)
      .by_cases hi:i<vs.length
       .show (if i<vs.length then r i else []).length<=20
        rw[hb i hi]
        exact (hr i hi).2
       .show (if i<vs.length then r i else []).length<=20
        rw[if_neg hi]
        exact Nat.zero_le _
theorem vbuild_row {w:World}{A1 A2 P:Option Addr}{c1 c2 C N:Nat}{es1:List E4}{n k:Int}{ns:List Int}{vs:Nat->VA}(v1:VIn w ⟨A1,c1,es1⟩)(_:-9223372036854775808<=n)(hn2:n<=9223372036854775807)(_:-9223372036854775808<=k)(_:k<=9223372036854775807)
  (hRn:Rn w A2 ns) (hnb:∀n∈ns,-9223372036854775808<=n/\n<=9223372036854775807) (hnl:ns.length<=9223372036854775807) (hN:N<=9223372036854775807)
  (hc:∀i,i<N->∃b o,P=some ⟨b,o,none⟩/\b<w.heap.size/\w.cell? ⟨b,o+i,none⟩=some (.slice (vs i).A (vs i).es.length (vs i).c)) (hv:∀i,i<N->VIn w (vs i)) :
  Calls Tryz.prog 5 #[.slice A1 es1.length c1,.int .i64 n,.int .i64 k,.slice A2 ns.length c2,.slice P N C] w fun e w'=>e=.returned (.bool true)/\Below w.heap.size w w':=by
 have hl:((List.range N).map vs).length=N:=by simp
 have h:=vbuild_any (c1:=c1) (c2:=c2) (C:=C) (n:=n) (k:=k) (P:=P) (vs:=(List.range N).map vs) v1 (fun i hi=>by
  rw[hl]at hi
  obtain ⟨b,o,e,hb,h⟩:=hc i hi
  exact ⟨b,o,e,hb,by simpa using h⟩) (fun v hm=>by
  obtain ⟨i,hi,rfl⟩:=List.mem_map.1 hm
  exact hv i (List.mem_range.1 hi)) (by rw[hl];exact hN) hnl hn2 hRn hnb
 rwa [hl]at h
end Go.Proofs.YtiifpobhmnplaaaGreat
