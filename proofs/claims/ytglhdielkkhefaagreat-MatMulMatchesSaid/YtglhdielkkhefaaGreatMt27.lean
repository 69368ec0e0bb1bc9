/- Parts: 1. -/
import Derived.Test.YtglhdielkkhefaaGreatMt22
import Derived.Test.YtglhdielkkhefaaGreatMt26
set_option linter.unusedVariables false
set_option linter.unusedSimpArgs false
set_option maxRecDepth 100000
set_option maxHeartbeats 40000000

namespace Go.Proofs.YtglhdielkkhefaaGreat
open Go.RowKit Go.Shelf
theorem mmul_long {w:World}{A B:MA}{X:VA}{k1 k2 k3 k4:Value}(v1:MIn w A)(v2:MIn w B)(v3:VIn w X)(hl:[A,B].any lngM=true) :
  Calls Tryz.prog 4 #[.slice A.P A.N A.C,.slice B.P B.N B.C,.slice X.A X.es.length X.c,.agg #[k1,k2,k3,k4]] w fun e w'=>e=.returned (.bool true)/\Below w.heap.size w w':=by
 obtain ⟨W0,hW0⟩:∃W0,W0=(w.alloc (.cells #[k1,k2,k3,k4] 32)).alloc (.cells #[.slice A.P A.N A.C,.slice B.P B.N B.C] 22):=⟨_,rfl⟩
 have hbw:Below w.heap.size w W0:=by rw[hW0];exact bRR.alloc (by simp) _
 have tK:Four W0 w.heap.size k1 k2 k3 k4:=by rw[hW0];exact (Four.new w _ _ _ _ _).alloc _
 have hp:Hp W0 (w.heap.size+1) (.cells #[.slice A.P A.N A.C,.slice B.P B.N B.C] 22 (0,0)):=by
  have h:=Hp.new (w.alloc (.cells #[k1,k2,k3,k4] 32)) #[.slice A.P A.N A.C,.slice B.P B.N B.C] 22;rw[szA]at h;rw[hW0];exact h
 have HL:=Hd (long4_o (some ⟨w.heap.size+1,0,none⟩) [A,B] 2 W0 (fun i hi=>by
  match i,hi with
  | 0,_=>exact ⟨_,_,rfl,hp.lt,(hp.cellAt _).trans rfl⟩
  | 1,_=>exact ⟨_,_,rfl,hp.lt,(hp.cellAt _).trans rfl⟩) (fun v hv=>by
  simp only[List.mem_cons,List.not_mem_nil,or_false]at hv
  rcases hv with rfl|rfl
  .exact v1.to hbw
  .exact v2.to hbw) (by simp) (r:=true) (by simpa using hl))
 have HW0:=Hd hW0;have HB:=Hd hbw;clear hW0 hbw hp hl v1 v2 v3 tK
 go_enter Tryz.func4,Tryz.ntmps4
 go_wp2_with fail
 rw[<-HW0.out];refine HL.out.mono ?_;rintro e V ⟨rfl,bb⟩;clear HL HW0;replace HB:=Hxb HB bb;clear bb
 go_wp2_with fail
 refine (malive_any _).mono ?_;rintro e V ⟨rfl,bb⟩;replace HB:=Hxb HB bb;clear bb;go_wp2
 go_ret
 exact ⟨rfl,HB.out⟩
theorem mmul_long2 {w:World}{A B:MA}{X:VA}{k1 k2 k3 k4:Value}(v1:MIn w A)(v2:MIn w B)(v3:VIn w X)(hl:[A,B].any lngM=false)(hm:lngV X.es=true) :
  Calls Tryz.prog 4 #[.slice A.P A.N A.C,.slice B.P B.N B.C,.slice X.A X.es.length X.c,.agg #[k1,k2,k3,k4]] w fun e w'=>e=.returned (.bool true)/\Below w.heap.size w w':=by
 obtain ⟨W0,hW0⟩:∃W0,W0=(w.alloc (.cells #[k1,k2,k3,k4] 32)).alloc (.cells #[.slice A.P A.N A.C,.slice B.P B.N B.C] 22):=⟨_,rfl⟩
 have hbw:Below w.heap.size w W0:=by rw[hW0];exact bRR.alloc (by simp) _
 have tK:Four W0 w.heap.size k1 k2 k3 k4:=by rw[hW0];exact (Four.new w _ _ _ _ _).alloc _
 have hp:Hp W0 (w.heap.size+1) (.cells #[.slice A.P A.N A.C,.slice B.P B.N B.C] 22 (0,0)):=by
  have h:=Hp.new (w.alloc (.cells #[k1,k2,k3,k4] 32)) #[.slice A.P A.N A.C,.slice B.P B.N B.C] 22;rw[szA]at h;rw[hW0];exact h
 have HL:=Hd (long4_o (some ⟨w.heap.size+1,0,none⟩) [A,B] 2 W0 (fun i hi=>by
  match i,hi with
  | 0,_=>exact ⟨_,_,rfl,hp.lt,(hp.cellAt _).trans rfl⟩
  | 1,_=>exact ⟨_,_,rfl,hp.lt,(hp.cellAt _).trans rfl⟩) (fun v hv=>by
  simp only[List.mem_cons,List.not_mem_nil,or_false]at hv
  rcases hv with rfl|rfl
  .exact v1.to hbw
  .exact v2.to hbw) (by simp) (r:=false) (by simpa using hl))
 have HW0:=Hd hW0;have HB:=Hd hbw;replace v3:=v3.to hbw;clear hW0 hbw hp hl v1 v2 tK
 go_enter Tryz.func4,Tryz.ntmps4
 go_wp2_with fail
 rw[<-HW0.out];refine HL.out.mono ?_;rintro e V ⟨rfl,bb⟩;clear HL HW0;replace v3:=v3.to bb;replace HB:=Hxb HB bb;clear bb;obtain ⟨W1,hW1⟩:∃W1,W1=V.alloc (.cells #[.slice X.A X.es.length X.c] 38):=⟨_,rfl⟩
 have hb1:Below V.heap.size V W1:=by rw[hW1];exact bRR
 have hp1:Hp W1 V.heap.size (.cells #[.slice X.A X.es.length X.c] 38 (0,0)):=by rw[hW1];exact Hp.new _ _ _
 have HL:=Hd (vlong_any V.heap.size [X] 1 W1 hp1.lt (fun i hi=>by
  match i,hi with
  | 0,_=>exact (hp1.cellAt _).trans rfl) (fun v hv=>by
  obtain rfl:v=X:=by simpa using hv
  exact v3.to hb1) (by simp) (r:=true) (by simpa using hm))
 have HW1:=Hd hW1;replace HB:=Hxb HB hb1;clear hW1 hb1 hp1 hm v3
 go_wp2_with fail
 rw[<-HW1.out];refine HL.out.mono ?_;rintro e V2 ⟨rfl,bb⟩;clear HL HW1;replace HB:=Hxb HB bb;clear bb
 go_wp2_with fail
 refine (malive_any _).mono ?_;rintro e V ⟨rfl,bb⟩;replace HB:=Hxb HB bb;clear bb;go_wp2
 go_ret
 exact ⟨rfl,HB.out⟩
theorem mmul_longk {w:World}{A B:MA}{X:VA}{k1 k2 k3 k4:Value}(v1:MIn w A)(v2:MIn w B)(v3:VIn w X)(hl:[A,B].any lngM=false)(hm:lngV X.es=false)(hK:∀(V:World) (g:Nat),V.heap[g]?=some (.cells #[k1,k2,k3,k4] 32 (0,0))->Calls Tryz.prog 28 #[.slice (some ⟨g,0,none⟩) 1 1] V fun e w'=>e=.returned (.bool true)/\Below V.heap.size V w') :
  Calls Tryz.prog 4 #[.slice A.P A.N A.C,.slice B.P B.N B.C,.slice X.A X.es.length X.c,.agg #[k1,k2,k3,k4]] w fun e w'=>e=.returned (.bool true)/\Below w.heap.size w w':=by
 obtain ⟨W0,hW0⟩:∃W0,W0=(w.alloc (.cells #[k1,k2,k3,k4] 32)).alloc (.cells #[.slice A.P A.N A.C,.slice B.P B.N B.C] 22):=⟨_,rfl⟩
 have hbw:Below w.heap.size w W0:=by rw[hW0];exact bRR.alloc (by simp) _
 have tK:Four W0 w.heap.size k1 k2 k3 k4:=by rw[hW0];exact (Four.new w _ _ _ _ _).alloc _
 have hp:Hp W0 (w.heap.size+1) (.cells #[.slice A.P A.N A.C,.slice B.P B.N B.C] 22 (0,0)):=by
  have h:=Hp.new (w.alloc (.cells #[k1,k2,k3,k4] 32)) #[.slice A.P A.N A.C,.slice B.P B.N B.C] 22;rw[szA]at h;rw[hW0];exact h
 have HL:=Hd (long4_o (some ⟨w.heap.size+1,0,none⟩) [A,B] 2 W0 (fun i hi=>by
  match i,hi with
  | 0,_=>exact ⟨_,_,rfl,hp.lt,(hp.cellAt _).trans rfl⟩
  | 1,_=>exact ⟨_,_,rfl,hp.lt,(hp.cellAt _).trans rfl⟩) (fun v hv=>by
  simp only[List.mem_cons,List.not_mem_nil,or_false]at hv
  rcases hv with rfl|rfl
  .exact v1.to hbw
  .exact v2.to hbw) (by simp) (r:=false) (by simpa using hl))
 have HW0:=Hd hW0;have HB:=Hd hbw;replace v3:=v3.to hbw;clear hW0 hbw hp hl v1 v2
 go_enter Tryz.func4,Tryz.ntmps4
 go_wp2_with fail
 rw[<-HW0.out];refine HL.out.mono ?_;rintro e V ⟨rfl,bb⟩;clear HL HW0;replace v3:=v3.to bb;replace tK:=tK.to bb;replace HB:=Hxb HB bb;clear bb;obtain ⟨W1,hW1⟩:∃W1,W1=V.alloc (.cells #[.slice X.A X.es.length X.c] 38):=⟨_,rfl⟩
 have hb1:Below V.heap.size V W1:=by rw[hW1];exact bRR
 have hp1:Hp W1 V.heap.size (.cells #[.slice X.A X.es.length X.c] 38 (0,0)):=by rw[hW1];exact Hp.new _ _ _
 have HL:=Hd (vlong_any V.heap.size [X] 1 W1 hp1.lt (fun i hi=>by
  match i,hi with
  | 0,_=>exact (hp1.cellAt _).trans rfl) (fun v hv=>by
  obtain rfl:v=X:=by simpa using hv
  exact v3.to hb1) (by simp) (r:=false) (by simpa using hm))
 have HW1:=Hd hW1;replace tK:=tK.to hb1;replace HB:=Hxb HB hb1;clear hW1 hb1 hp1 hm v3
 go_wp2_with fail
 rw[<-HW1.out];refine HL.out.mono ?_;rintro e V2 ⟨rfl,bb⟩;clear HL HW1;replace tK:=tK.to bb;replace HB:=Hxb HB bb;clear bb;have q0:=tK.c0;have q1:=tK.c1;have q2:=tK.c2;have q3:=tK.c3
 go_wp2_with fail
 obtain ⟨W2,hW2⟩:∃W,W=V2.alloc (.cells #[k1,k2,k3,k4] 32):=⟨_,rfl⟩
 have bb:Below V2.heap.size V2 W2:=by rw[hW2];exact bRR
 have HM:=Hd (hK W2 V2.heap.size (by rw[hW2];exact World.alloc_heap_new V2 _));rw[<-hW2];clear hW2 hK q0 q1 q2 q3;replace tK:=tK.to bb;replace HB:=Hxb HB bb;clear bb;refine HM.out.mono ?_;rintro e U ⟨rfl,bb⟩;clear HM;replace tK:=tK.to bb;replace HB:=Hxb HB bb;clear bb;clear tK
 go_wp2_with fail
 refine (malive_any _).mono ?_;rintro e V ⟨rfl,bb⟩;replace HB:=Hxb HB bb;clear bb;go_wp2
 go_ret
 exact ⟨rfl,HB.out⟩
theorem mmul_core {w:World}{A B:MA}{X:VA}{k1 k2 k3 k4:Value}(v1:MIn w A)(v2:MIn w B)(v3:VIn w X){n1 n2:Nat->Nat}{U1 U2:Nat->Nat->W4}{x:List Rat}{t:Rat}(hl:[A,B].any lngM=false)(hm:lngV X.es=false)(hK:∀(V:World) (g:Nat),V.heap[g]?=some (.cells #[k1,k2,k3,k4] 32 (0,0))->Calls Tryz.prog 28 #[.slice (some ⟨g,0,none⟩) 1 1] V fun e w'=>e=.returned (.bool false)/\Below V.heap.size V w')(wa:Mw w A.P A.N A.C n1 U1)(wb:Mw w B.P B.N B.C n2 U2)(vx:Vi w X.A X.c X.es x 6)(lx:x.length<=20)(vk:Qi w k1 k2 k3 k4 t 6)(na:A.N<=8)(nb:B.N<=8)(la:∀k,k<A.N->n1 k<=8)(lb:∀k,k<B.N->n2 k<=8) :
  Calls Tryz.prog 4 #[.slice A.P A.N A.C,.slice B.P B.N B.C,.slice X.A X.es.length X.c,.agg #[k1,k2,k3,k4]] w fun e w'=>e=.returned (.bool true)/\Below w.heap.size w w':=by
 obtain ⟨W0,hW0⟩:∃W0,W0=(w.alloc (.cells #[k1,k2,k3,k4] 32)).alloc (.cells #[.slice A.P A.N A.C,.slice B.P B.N B.C] 22):=⟨_,rfl⟩
 have hbw:Below w.heap.size w W0:=by rw[hW0];exact bRR.alloc (by simp) _
 have tK:Four W0 w.heap.size k1 k2 k3 k4:=by rw[hW0];exact (Four.new w _ _ _ _ _).alloc _
 have hp:Hp W0 (w.heap.size+1) (.cells #[.slice A.P A.N A.C,.slice B.P B.N B.C] 22 (0,0)):=by
  have h:=Hp.new (w.alloc (.cells #[k1,k2,k3,k4] 32)) #[.slice A.P A.N A.C,.slice B.P B.N B.C] 22;rw[szA]at h;rw[hW0];exact h
 have HL:=Hd (long4_o (some ⟨w.heap.size+1,0,none⟩) [A,B] 2 W0 (fun i hi=>by
  match i,hi with
  | 0,_=>exact ⟨_,_,rfl,hp.lt,(hp.cellAt _).trans rfl⟩
  | 1,_=>exact ⟨_,_,rfl,hp.lt,(hp.cellAt _).trans rfl⟩) (fun v hv=>by
  simp only[List.mem_cons,List.not_mem_nil,or_false]at hv
  rcases hv with rfl|rfl
  .exact v1.to hbw
  .exact v2.to hbw) (by simp) (r:=false) (by simpa using hl))
 have HW0:=Hd hW0;have HB:=Hd hbw;replace wa:=wa.to hbw;replace wb:=wb.to hbw;replace vx:=vx.to hbw;replace vk:=vk.to hbw;replace v3:=v3.to hbw
 have mQ:∀{n:Nat->Nat} {U:Nat->Nat->W4} {P:Option Addr} {N C:Nat},Mw W0 P N C n U->∀i j,Qm 6 (el (ratsU n U) N i j):=fun {n U P N C} h i j=>by
  by_cases hi:i<N
  .rw[el_in hi];obtain ⟨b,o,A,c,es,e,h1,h2,h3⟩:=h.mi.row i hi;exact (h3.el j).qm (by decide)
  .rw[el_out hi];exact Qm.zero (by decide)
 have HQA:=Hd (mQ wa);have HQB:=Hd (mQ wb);have HQX:Hid (∀i,Qm 6 (x.getD i 0)):=fun i=>(vx.el i).qm (by decide)
 have LX:=Hd lx;have EX:=Hd vx.len;clear mQ hW0 hbw hp hl v1 v2
 go_enter Tryz.func4,Tryz.ntmps4
 go_wp2_with fail
 rw[<-HW0.out];refine HL.out.mono ?_;rintro e V ⟨rfl,bb⟩;clear HL HW0;replace wa:=wa.to bb;replace wb:=wb.to bb;replace vx:=vx.to bb;replace vk:=vk.to bb;replace v3:=v3.to bb;replace tK:=tK.to bb;replace HB:=Hxb HB bb;clear bb;obtain ⟨W1,hW1⟩:∃W1,W1=V.alloc (.cells #[.slice X.A X.es.length X.c] 38):=⟨_,rfl⟩
 have hb1:Below V.heap.size V W1:=by rw[hW1];exact bRR
 have hp1:Hp W1 V.heap.size (.cells #[.slice X.A X.es.length X.c] 38 (0,0)):=by rw[hW1];exact Hp.new _ _ _
 have HL:=Hd (vlong_any V.heap.size [X] 1 W1 hp1.lt (fun i hi=>by
  match i,hi with
  | 0,_=>exact (hp1.cellAt _).trans rfl) (fun v hv=>by
  obtain rfl:v=X:=by simpa using hv
  exact v3.to hb1) (by simp) (r:=false) (by simpa using hm))
 have HW1:=Hd hW1;replace wa:=wa.to hb1;replace wb:=wb.to hb1;replace vx:=vx.to hb1;replace vk:=vk.to hb1;replace tK:=tK.to hb1;replace HB:=Hxb HB hb1;clear hW1 hb1 hp1 hm v3
 go_wp2_with fail
 rw[<-HW1.out];refine HL.out.mono ?_;rintro e V2 ⟨rfl,bb⟩;clear HL HW1;replace wa:=wa.to bb;replace wb:=wb.to bb;replace vx:=vx.to bb;replace vk:=vk.to bb;replace tK:=tK.to bb;replace HB:=Hxb HB bb;clear bb;have q0:=tK.c0;have q1:=tK.c1;have q2:=tK.c2;have q3:=tK.c3
 go_wp2_with fail
 obtain ⟨W2,hW2⟩:∃W,W=V2.alloc (.cells #[k1,k2,k3,k4] 32):=⟨_,rfl⟩
 have bb:Below V2.heap.size V2 W2:=by rw[hW2];exact bRR
 have HM:=Hd (hK W2 V2.heap.size (by rw[hW2];exact World.alloc_heap_new V2 _));rw[<-hW2];clear hW2 hK q0 q1 q2 q3;replace wa:=wa.to bb;replace wb:=wb.to bb;replace vx:=vx.to bb;replace vk:=vk.to bb;replace tK:=tK.to bb;replace HB:=Hxb HB bb;clear bb;refine HM.out.mono ?_;rintro e U ⟨rfl,bb⟩;clear HM;replace wa:=wa.to bb;replace wb:=wb.to bb;replace vx:=vx.to bb;replace vk:=vk.to bb;replace tK:=tK.to bb;replace HB:=Hxb HB bb;clear bb;obtain ⟨PA,NA,CA,_⟩:=A;obtain ⟨PB,NB,CB,_⟩:=B;obtain ⟨AX,cX,esX⟩:=X;dsimp only at wa wb vx na nb la lb EX HQA HQB ⊢;rw[EX.out];obtain ⟨a,ha⟩:∃a,ratsU n1 U1=a:=⟨_,rfl⟩
 obtain ⟨b,hbb⟩:∃b,ratsU n2 U2=b:=⟨_,rfl⟩
 have HLA:Hid (∀k,k<NA->(a k).length<=8):=fun k hk=>by rw[<-ha,ratsU_length];exact la k hk
 have HLB:Hid (∀k,k<NB->(b k).length<=8):=fun k hk=>by rw[<-hbb,ratsU_length];exact lb k hk
 rw[ha]at HQA;rw[hbb]at HQB;have EA:=Hd ha;have EB:=Hd hbb;obtain ⟨Z,hZ⟩:∃Z,max NA NB=Z:=⟨_,rfl⟩
 have HZ:=Hd hZ;have HNA:=Hd na;have HNB:=Hd nb;clear ha hbb hZ na nb la lb lx EX
 go_wp2_with fail
 refine (own4_x wa (by have:=HNA.out;omega)).mono ?_;rintro e V ⟨PM,CM,rfl,wm,bb⟩;replace wa:=wa.to bb;replace wb:=wb.to bb;replace vx:=vx.to bb;replace vk:=vk.to bb;replace tK:=tK.to bb;replace HB:=Hxb HB bb;clear bb
 go_wp2_with fail
 refine (own4_x wb (by have:=HNB.out;omega)).mono ?_;rintro e V ⟨PN,CN,rfl,wn,bb⟩;replace wa:=wa.to bb;replace wb:=wb.to bb;replace vx:=vx.to bb;replace vk:=vk.to bb;replace tK:=tK.to bb;replace wm:=wm.to bb;replace HB:=Hxb HB bb;clear bb;have ma:=wa.mi;have mm:=wm.mi;rw[EA.out]at ma mm;have mb:=wb.mi;have mn:=wn.mi;rw[EB.out]at mb mn;obtain ⟨U0,hU0⟩:∃U0:World,U0=V:=⟨_,rfl⟩
 subst hU0;have MA_:=Hd ma;have MM_:=Hd mm;have MB_:=Hd mb;have MN_:=Hd mn;have VK:=Hd vk;have TK:=Hd tK;clear ma mm mb mn vk tK;have HBU:=Hd HB.out;clear HB
 go_wp2_with fail
 refine wp_region_plan (S:=fun w'=>Below U0.heap.size U0 w') [(0,true),(1,true),(2,true),(4,true),(5,true),(3,false),(6,false),(7,false),(8,true),(9,true),(10,true),(11,true),(12,true),(14,true),(15,true),(13,false),(16,false),(17,false),(18,true),(19,true),(20,true),(21,true),(22,true),(23,true),(25,true),(26,true),(24,false),(27,false),(28,false),(29,true),(30,true),(31,true),(32,true),(33,true),(34,true),(36,true),(37,true),(35,false),(38,false),(39,false),(40,true),(41,true)] (by kernel_rfl) (by kernel_rfl) (Below.refl U0.heap.size U0).drew ?_;have hb:=(Below.refl U0.heap.size U0).drew
 iterate 5 (refine plan_take (v:=?_) rfl (by rfl) ?_ ?_;rotate_left;(focus (intro w' _;go_simp;try with_reducible rfl));simp only[Act.put,pqA,pqB,pqC])
 refine plan_call rfl (by rfl) (fun K hK=>?_);go_simp
 refine (mul_m (MM_.out.to hb) (MN_.out.to hb) (by decide) (by decide) (by have:=HNA.out;omega) (by have:=HNB.out;omega) (fun k hk=>by have:=HLA.out k hk;omega) (fun k hk=>by have:=HLB.out k hk;omega) (fun i hi=>by have:=HLA.out i hi;omega)).mono ?_;rintro e V ⟨P1,C1,rfl,r1,bb⟩;replace hb:=Bxb hb bb;refine hK.out _ _ hb ?_;clear hK K bb;refine plan_call rfl (by rfl) (fun K hK=>?_);go_simp
 refine (rmul4_m (K:=8) (MA_.out.to hb) (MB_.out.to hb) HQA.out HQB.out (by decide) (by decide) (by have:=HNA.out;omega) (by have:=HNB.out;omega) (fun k hk=>by have:=HLA.out k hk;omega) (fun k hk=>by have:=HLB.out k hk;omega) (by decide) (by decide)).mono ?_;rintro e V ⟨P2,C2,rfl,r2,bb⟩;replace hb:=Bxb hb bb;replace r1:=r1.to bb;refine hK.out _ _ hb ?_;clear hK K bb;refine plan_call rfl (by rfl) (fun K hK=>?_);go_simp
 refine (is4_t r1 r2 (fun _ _=>rfl) (fun k _=>by have h1:=colsN_le HLB.out;rw[tab_length];omega)).mono ?_;rintro e V ⟨rfl,bb⟩;replace hb:=Bxb hb bb;clear r1;clear r2;refine hK.out _ _ hb ?_;clear hK K bb
 iterate 7 (refine plan_take (v:=?_) rfl (by rfl) ?_ ?_;rotate_left;(focus (intro w' _;go_simp;try with_reducible rfl));simp only[Act.put,pqA,pqB,pqC])
 refine plan_call rfl (by rfl) (fun K hK=>?_);go_simp
 have hc:=addm_m (MM_.out.to hb) (MN_.out.to hb) (by decide) (by decide) (by decide) (by have:=HNA.out;omega) (by have:=HNB.out;omega) (fun k hk=>by have:=HLA.out k hk;omega) (fun k hk=>by have:=HLB.out k hk;omega);rw[HZ.out]at hc;refine hc.mono ?_;rintro e V ⟨P1,C1,rfl,r1,bb⟩;replace hb:=Bxb hb bb;refine hK.out _ _ hb ?_;clear hK K bb hc;refine plan_call rfl (by rfl) (fun K hK=>?_);go_simp
 have hc:=radd4_m (MA_.out.to hb) (MB_.out.to hb) (by decide) (by decide) (by decide) (by have:=HNA.out;omega) (by have:=HNB.out;omega) (fun k hk=>by have:=HLA.out k hk;omega) (fun k hk=>by have:=HLB.out k hk;omega);rw[HZ.out]at hc;refine hc.mono ?_;rintro e V ⟨P2,C2,rfl,r2,bb⟩;replace hb:=Bxb hb bb;replace r1:=r1.to bb;refine hK.out _ _ hb ?_;clear hK K bb hc;refine plan_call rfl (by rfl) (fun K hK=>?_);go_simp
 refine (is4_t r1 r2 (fun _ _=>rfl) (fun k _=>by have h1:=rowL_le HLA.out k;have h2:=rowL_le HLB.out k;rw[ptw_length];omega)).mono ?_;rintro e V ⟨rfl,bb⟩;replace hb:=Bxb hb bb;clear r1;clear r2;refine hK.out _ _ hb ?_;clear hK K bb
 iterate 4 (refine plan_take (v:=?_) rfl (by rfl) ?_ ?_;rotate_left;(focus (intro w' _;go_simp;try with_reducible rfl));simp only[Act.put,pqA,pqB,pqC])
 refine plan_take rfl (by rfl) (fun w' hS=>load_four (by rfl) (TK.out.to hS)) ?_;simp only[Act.put,pqA,pqB,pqC];refine plan_take (v:=?_) rfl (by rfl) ?_ ?_;rotate_left;(focus (intro w' _;go_simp;try with_reducible rfl));simp only[Act.put,pqA,pqB,pqC];refine plan_take rfl (by rfl) (fun w' hS=>load_four (by rfl) (TK.out.to hS)) ?_;simp only[Act.put,pqA,pqB,pqC];refine plan_take (v:=?_) rfl (by rfl) ?_ ?_;rotate_left;(focus (intro w' _;go_simp;try with_reducible rfl));simp only[Act.put,pqA,pqB,pqC];refine plan_call rfl (by rfl) (fun K hK=>?_);go_simp
 refine (scale_m (VK.out.to hb) (MM_.out.to hb) (by decide) (by decide) (by decide) (by have:=HNA.out;omega) (fun k hk=>by have:=HLA.out k hk;omega)).mono ?_;rintro e V ⟨P1,C1,rfl,r1,bb⟩;replace hb:=Bxb hb bb;refine hK.out _ _ hb ?_;clear hK K bb;refine plan_call rfl (by rfl) (fun K hK=>?_);go_simp
 refine (rscale4_m (VK.out.to hb) (MA_.out.to hb) (by decide) (by decide) (by decide) (by have:=HNA.out;omega) (fun k hk=>by have:=HLA.out k hk;omega)).mono ?_;rintro e V ⟨P2,C2,rfl,r2,bb⟩;replace hb:=Bxb hb bb;replace r1:=r1.to bb;refine hK.out _ _ hb ?_;clear hK K bb;refine plan_call rfl (by rfl) (fun K hK=>?_);go_simp
 refine (is4_t r1 r2 (fun _ _=>rfl) (fun k hk=>by have h1:=HLA.out k hk;unfold scaleQ;rw[ptw_length];simp;omega)).mono ?_;rintro e V ⟨rfl,bb⟩;replace hb:=Bxb hb bb;clear r1;clear r2;refine hK.out _ _ hb ?_;clear hK K bb
 iterate 8 (refine plan_take (v:=?_) rfl (by rfl) ?_ ?_;rotate_left;(focus (intro w' _;go_simp;try with_reducible rfl));simp only[Act.put,pqA,pqB,pqC])
 refine plan_call rfl (by rfl) (fun K hK=>?_);go_simp
 have hc:=cat_m (MM_.out.to hb) (MN_.out.to hb) (by decide) (by have:=HNA.out;omega) (by have:=HNB.out;omega) (fun k hk=>by have:=HLA.out k hk;omega) (fun k hk=>by have:=HLB.out k hk;omega);rw[HZ.out]at hc;refine hc.mono ?_;rintro e V ⟨P1,C1,rfl,r1,bb⟩;replace hb:=Bxb hb bb;refine hK.out _ _ hb ?_;clear hK K bb hc;refine plan_call rfl (by rfl) (fun K hK=>?_);go_simp
 have hc:=rbeside_m (MA_.out.to hb) (MB_.out.to hb) (by decide) (by decide) (by have:=HNA.out;omega) (by have:=HNB.out;omega) (fun k hk=>by have:=HLA.out k hk;omega) (fun k hk=>by have:=HLB.out k hk;omega);rw[HZ.out]at hc;refine hc.mono ?_;rintro e V ⟨P2,C2,rfl,r2,bb⟩;replace hb:=Bxb hb bb;replace r1:=r1.to bb;refine hK.out _ _ hb ?_;clear hK K bb hc;refine plan_call rfl (by rfl) (fun K hK=>?_);go_simp
 refine (is4_t r1 r2 (fun _ _=>rfl) (fun k _=>by have h1:=colsN_le HLA.out;have h2:=colsN_le HLB.out;rw[tab_length];omega)).mono ?_;rintro e V ⟨rfl,bb⟩;replace hb:=Bxb hb bb;clear r1;clear r2;refine hK.out _ _ hb ?_;clear hK K bb
 iterate 2 (refine plan_take (v:=?_) rfl (by rfl) ?_ ?_;rotate_left;(focus (intro w' _;go_simp;try with_reducible rfl));simp only[Act.put,pqA,pqB,pqC])
 refine plan_done ?_;have HB:=Hxb HBU hb;have ma:=MA_.out.to hb;have mm:=MM_.out.to hb;replace wa:=wa.to hb;replace wb:=wb.to hb;replace wm:=wm.to hb;replace wn:=wn.to hb;replace vx:=vx.to hb;clear hb MA_ MM_ MB_ MN_ VK TK HBU
 go_wp2_with fail
 refine (mulVec_m mm vx (by decide) (by decide) (by have:=HNA.out;omega) (fun k hk=>by have:=HLA.out k hk;omega) (by have:=LX.out;omega) (fun i hi=>by have h1:=HLA.out i hi;have h2:=LX.out;omega)).mono ?_;rintro e V ⟨A1,c1,f1,rfl,u1,bb⟩;replace wa:=wa.to bb;replace wb:=wb.to bb;replace wm:=wm.to bb;replace wn:=wn.to bb;replace vx:=vx.to bb;replace ma:=ma.to bb;replace mm:=mm.to bb;replace HB:=Hxb HB bb;clear bb
 go_wp2_with fail
 refine (rtimes_v ma vx (by decide) (by decide) (by have:=HNA.out;omega) (fun k hk=>by have:=HLA.out k hk;omega) (by have:=LX.out;omega) (fun i hi=>by have h1:=HLA.out i hi;omega)).mono ?_;rintro e V ⟨A2,c2,f2,rfl,u2,bb⟩;replace wa:=wa.to bb;replace wb:=wb.to bb;replace wm:=wm.to bb;replace wn:=wn.to bb;replace vx:=vx.to bb;replace ma:=ma.to bb;replace mm:=mm.to bb;replace u1:=u1.to bb;replace HB:=Hxb HB bb;clear bb
 go_wp2_with fail
 refine (vis_v u1 u2 (by rw[tab_length];have:=HNA.out;omega) (v:=true) (decide_eq_true rfl)).mono ?_;rintro e V ⟨rfl,bb⟩;clear u1;clear u2;replace wa:=wa.to bb;replace wb:=wb.to bb;replace wm:=wm.to bb;replace wn:=wn.to bb;replace vx:=vx.to bb;replace ma:=ma.to bb;replace mm:=mm.to bb;replace HB:=Hxb HB bb;clear bb
 go_wp2_with fail
 refine (vecMul_m vx mm (by decide) (by decide) (fun k hk=>by have:=HLA.out k hk;omega) (by have:=HNA.out;omega) (by have:=LX.out;omega) (by have:=HNA.out;omega)).mono ?_;rintro e V ⟨A1,c1,f1,rfl,u1,bb⟩;replace wa:=wa.to bb;replace wb:=wb.to bb;replace wm:=wm.to bb;replace wn:=wn.to bb;replace vx:=vx.to bb;replace ma:=ma.to bb;replace mm:=mm.to bb;replace HB:=Hxb HB bb;clear bb
 go_wp2_with fail
 refine (rleft_v vx ma HQA.out HQX.out (by decide) (by have:=HNA.out;omega) (fun k hk=>by have:=HLA.out k hk;omega) (by have:=HNA.out;omega)).mono ?_;rintro e V ⟨A2,c2,f2,rfl,u2,bb⟩;replace wa:=wa.to bb;replace wb:=wb.to bb;replace wm:=wm.to bb;replace wn:=wn.to bb;replace vx:=vx.to bb;replace ma:=ma.to bb;replace mm:=mm.to bb;replace u1:=u1.to bb;replace HB:=Hxb HB bb;clear bb
 go_wp2_with fail
 refine (vis_v u1 u2 (by have h1:=colsN_le HLA.out;rw[tab_length];omega) (v:=true) (decide_eq_true rfl)).mono ?_;rintro e V ⟨rfl,bb⟩;clear u1;clear u2;clear mm;clear ma;clear vx;replace wa:=wa.to bb;replace wb:=wb.to bb;replace wm:=wm.to bb;replace wn:=wn.to bb;replace HB:=Hxb HB bb;clear bb
 go_wp2_with fail
 refine (is4_x wm wa).mono ?_;rintro e V ⟨rfl,bb⟩;clear wm;clear wa;replace wb:=wb.to bb;replace wn:=wn.to bb;replace HB:=Hxb HB bb;clear bb
 go_wp2_with fail
 refine (is4_x wn wb).mono ?_;rintro e V ⟨rfl,bb⟩;clear wn;clear wb;replace HB:=Hxb HB bb;clear bb
 go_wp2_with fail
 refine (malive_any _).mono ?_;rintro e V ⟨rfl,bb⟩;replace HB:=Hxb HB bb;clear bb;go_wp2
 go_ret
 exact ⟨rfl,HB.out⟩
theorem mmul_any {w:World}{A B:MA}{X:VA}{k1 k2 k3 k4:Value}(z1:Zx2 w k1 k2)(z2:Zx2 w k3 k4)(v1:MIn w A)(v2:MIn w B)(v3:VIn w X) :
  Calls Tryz.prog 4 #[.slice A.P A.N A.C,.slice B.P B.N B.C,.slice X.A X.es.length X.c,.agg #[k1,k2,k3,k4]] w fun e w'=>e=.returned (.bool true)/\Below w.heap.size w w':=by
 obtain ⟨m1,B1,d1,xs1,rfl,rfl,r1,f1,g1,o1⟩:=z1;obtain ⟨m2,B2,d2,xs2,rfl,rfl,r2,f2,g2,o2⟩:=z2;have hl1:∀{r:Bool},([(xs1.length,xs2.length)].any fun p=>decide (6<p.1)||decide (6<p.2))=r->∀(V:World) (g:Nat),V.heap[g]?=some (.cells #[.bool m1,.slice B1 xs1.length d1,.bool m2,.slice B2 xs2.length d2] 32 (0,0))->Calls Tryz.prog 28 #[.slice (some ⟨g,0,none⟩) 1 1] V fun e w'=>e=.returned (.bool r)/\Below V.heap.size V w':=fun hr V g h=>qlongk (by omega) (by omega) h hr
 cases hl:[A,B].any lngM with
 | true=>exact mmul_long v1 v2 v3 hl
 | false =>
  cases hm:lngV X.es with
  | true=>exact mmul_long2 v1 v2 v3 hl hm
  | false =>
   by_cases hk:xs1.length<=6/\xs2.length<=6
   .have hl':=hl;simp only[List.any_cons,List.any_nil,Bool.or_false,Bool.or_eq_false_iff]at hl';obtain ⟨n1,U1,ha,na,la⟩:=v1.mw hl'.1;obtain ⟨n2,U2,hb,nb,lb⟩:=v2.mw hl'.2;obtain ⟨x,hx,lx⟩:=v3.vi hm;have hK:Qi w (.bool m1) (.slice B1 xs1.length d1) (.bool m2) (.slice B2 xs2.length d2) (rv (zof m1 (val b32 xs1)) (zof m2 (val b32 xs2))) 6:=⟨_,_,⟨m1,B1,d1,xs1,rfl,rfl,⟨r1,f1,g1,o1,by omega⟩,by omega,rfl⟩,⟨m2,B2,d2,xs2,rfl,rfl,⟨r2,f2,g2,o2,by omega⟩,by omega,rfl⟩,rfl,Sm.zof f1 hk.1,Sm.zof f2 hk.2⟩
    exact mmul_core v1 v2 v3 hl hm (hl1 (by simp;omega)) ha hb hx lx hK na nb la lb
   .exact mmul_longk v1 v2 v3 hl hm (hl1 (by simp;omega))
theorem mmul_row {w:World}{P0 P1 A2:Option Addr}{N0 N1 C0 C1 c2:Nat}{vs0 vs1:Nat->VA}{es2:List E4}{k1 k2 k3 k4:Value}
  (n0:N0<=9223372036854775807) (h0:∀i,i<N0->∃b o,P0=some ⟨b,o,none⟩/\b<w.heap.size/\w.cell? ⟨b,o+i,none⟩=some (.slice (vs0 i).A (vs0 i).es.length (vs0 i).c)) (v0:∀i,i<N0->VIn w (vs0 i))
  (n1:N1<=9223372036854775807) (h1:∀i,i<N1->∃b o,P1=some ⟨b,o,none⟩/\b<w.heap.size/\w.cell? ⟨b,o+i,none⟩=some (.slice (vs1 i).A (vs1 i).es.length (vs1 i).c)) (v1:∀i,i<N1->VIn w (vs1 i))
  (v2:VIn w ⟨A2,c2,es2⟩) (z1:Zx2 w k1 k2) (z2:Zx2 w k3 k4) :
  Calls Tryz.prog 4 #[.slice P0 N0 C0,.slice P1 N1 C1,.slice A2 es2.length c2,.agg #[k1,k2,k3,k4]] w fun e w'=>e=.returned (.bool true)/\Below w.heap.size w w' :=
 mmul_any (A:=⟨P0,N0,C0,vs0⟩) (B:=⟨P1,N1,C1,vs1⟩) (X:=⟨A2,c2,es2⟩) z1 z2 ⟨h0,v0,n0⟩ ⟨h1,v1,n1⟩ v2
end Go.Proofs.YtglhdielkkhefaaGreat
