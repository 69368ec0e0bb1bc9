/- Parts: 1. -/
import Derived.Test.YtglhdielkkhefaaGreatMr21
import Derived.Test.YtglhdielkkhefaaGreatMr22
set_option linter.unusedVariables false
set_option linter.unusedSimpArgs false
set_option maxRecDepth 100000
set_option maxHeartbeats 40000000

namespace Go.Proofs.YtglhdielkkhefaaGreat
open Go.RowKit Go.Shelf
theorem mring_long {w:World}{A B C:MA}(v1:MIn w A)(v2:MIn w B)(v3:MIn w C)(hl:[A,B,C].any lngM=true) :
  Calls Tryz.prog 6 #[.slice A.P A.N A.C,.slice B.P B.N B.C,.slice C.P C.N C.C] w fun e w'=>e=.returned (.bool true)/\Below w.heap.size w w':=by
 obtain ⟨W0,hW0⟩:∃W0,W0=w.alloc (.cells #[.slice A.P A.N A.C,.slice B.P B.N B.C,.slice C.P C.N C.C] 22):=⟨_,rfl⟩
 have hbw:Below w.heap.size w W0:=by rw[hW0];exact (Below.refl _ _).alloc (Nat.le_refl _) _
 have hp:Hp W0 w.heap.size (.cells #[.slice A.P A.N A.C,.slice B.P B.N B.C,.slice C.P C.N C.C] 22 (0,0)):=by rw[hW0];exact Hp.new _ _ _
 have HL:=Hd (long4_o (some ⟨w.heap.size,0,none⟩) [A,B,C] 3 W0 (fun i hi=>by
  match i,hi with
  | 0,_=>exact ⟨_,_,rfl,hp.lt,(hp.cellAt _).trans rfl⟩
  | 1,_=>exact ⟨_,_,rfl,hp.lt,(hp.cellAt _).trans rfl⟩
  | 2,_=>exact ⟨_,_,rfl,hp.lt,(hp.cellAt _).trans rfl⟩) (fun v hv=>by
  simp only[List.mem_cons,List.not_mem_nil,or_false]at hv
  rcases hv with rfl|rfl|rfl
  .exact v1.to hbw
  .exact v2.to hbw
  .exact v3.to hbw) (by simp) (r:=true) (by simpa using hl))
 have HW0:=Hd hW0
 have HB:=Hd hbw
 clear hW0 hbw hp hl v1 v2 v3
 go_enter Tryz.func6,Tryz.ntmps6
 go_wp2_with fail
 rw[<-HW0.out]
 refine HL.out.mono ?_
 rintro e V ⟨rfl,bb⟩
 clear HL HW0
 replace HB:=Hxb HB bb
 clear bb
 go_wp2_with fail
 refine (malive_any _).mono ?_
 rintro e V ⟨rfl,bb⟩
 replace HB:=Hxb HB bb
 clear bb
 go_wp2
 go_ret
 exact ⟨rfl,HB.out⟩
theorem mring_core {w:World}{A B C:MA}(v1:MIn w A)(v2:MIn w B)(v3:MIn w C){a b c:Nat->List Rat}(hl:[A,B,C].any lngM=false)(xa:Mx w A.P A.N A.C a 6 8)(xb:Mx w B.P B.N B.C b 6 8)(xc:Mx w C.P C.N C.C c 6 8)(na:A.N<=8)(nb:B.N<=8)(nc:C.N<=8) :
  Calls Tryz.prog 6 #[.slice A.P A.N A.C,.slice B.P B.N B.C,.slice C.P C.N C.C] w fun e w'=>e=.returned (.bool true)/\Below w.heap.size w w':=by
 obtain ⟨W0,hW0⟩:∃W0,W0=w.alloc (.cells #[.slice A.P A.N A.C,.slice B.P B.N B.C,.slice C.P C.N C.C] 22):=⟨_,rfl⟩
 have hbw:Below w.heap.size w W0:=by rw[hW0];exact (Below.refl _ _).alloc (Nat.le_refl _) _
 have hp:Hp W0 w.heap.size (.cells #[.slice A.P A.N A.C,.slice B.P B.N B.C,.slice C.P C.N C.C] 22 (0,0)):=by rw[hW0];exact Hp.new _ _ _
 have HL:=Hd (long4_o (some ⟨w.heap.size,0,none⟩) [A,B,C] 3 W0 (fun i hi=>by
  match i,hi with
  | 0,_=>exact ⟨_,_,rfl,hp.lt,(hp.cellAt _).trans rfl⟩
  | 1,_=>exact ⟨_,_,rfl,hp.lt,(hp.cellAt _).trans rfl⟩
  | 2,_=>exact ⟨_,_,rfl,hp.lt,(hp.cellAt _).trans rfl⟩) (fun v hv=>by
  simp only[List.mem_cons,List.not_mem_nil,or_false]at hv
  rcases hv with rfl|rfl|rfl
  .exact v1.to hbw
  .exact v2.to hbw
  .exact v3.to hbw) (by simp) (r:=false) (by simpa using hl))
 have HW0:=Hd hW0
 have HB:=Hd hbw
 replace xa:=xa.to hbw
 replace xb:=xb.to hbw
 replace xc:=xc.to hbw
 obtain ⟨PA,NA,CA,_⟩:=A
 obtain ⟨PB,NB,CB,_⟩:=B
 obtain ⟨PC,NC,CC,_⟩:=C
 dsimp only at xa xb xc na nb nc HL HW0 ⊢
 have hca:colsN a NA<=8:=colsN_le xa.mv.l
 have HNA:=Hd na
 have HNB:=Hd nb
 have HNC:=Hd nc
 have HCA:=Hd hca
 clear hW0 hbw hp hl v1 v2 v3 na nb nc hca
 go_enter Tryz.func6,Tryz.ntmps6
 go_wp2_with fail
 rw[<-HW0.out]
 refine HL.out.mono ?_
 rintro e V ⟨rfl,bb⟩
 clear HL HW0
 replace xa:=xa.to bb
 replace xb:=xb.to bb
 replace xc:=xc.to bb
 replace HB:=Hxb HB bb
 clear bb
 go_wp2_with fail
 refine (mul_x xa xb 8 (by have:=HNA.out;have:=HNB.out;have:=HNC.out;have:=HCA.out;omega) (by decide) (by decide) (by have:=HNA.out;have:=HNB.out;have:=HNC.out;have:=HCA.out;omega) (by have:=HNA.out;have:=HNB.out;have:=HNC.out;have:=HCA.out;omega) (by have:=HNA.out;have:=HNB.out;have:=HNC.out;have:=HCA.out;omega) (by decide) (by decide)).mono ?_
 rintro e V ⟨_,_,rfl,y1,bb⟩
 replace xa:=xa.to bb
 replace xb:=xb.to bb
 replace xc:=xc.to bb
 replace HB:=Hxb HB bb
 clear bb
 go_wp2_with fail
 refine (mul_x xb xc 8 (by have:=HNA.out;have:=HNB.out;have:=HNC.out;have:=HCA.out;omega) (by decide) (by decide) (by have:=HNA.out;have:=HNB.out;have:=HNC.out;have:=HCA.out;omega) (by have:=HNA.out;have:=HNB.out;have:=HNC.out;have:=HCA.out;omega) (by have:=HNA.out;have:=HNB.out;have:=HNC.out;have:=HCA.out;omega) (by decide) (by decide)).mono ?_
 rintro e V ⟨_,_,rfl,y2,bb⟩
 replace xa:=xa.to bb
 replace xb:=xb.to bb
 replace xc:=xc.to bb
 replace y1:=y1.to bb
 replace HB:=Hxb HB bb
 clear bb
 go_wp2_with fail
 refine (mul_x y1 xc 8 (by have:=HNA.out;have:=HNB.out;have:=HNC.out;have:=HCA.out;omega) (by decide) (by decide) (by have:=HNA.out;have:=HNB.out;have:=HNC.out;have:=HCA.out;omega) (by have:=HNA.out;have:=HNB.out;have:=HNC.out;have:=HCA.out;omega) (by have:=HNA.out;have:=HNB.out;have:=HNC.out;have:=HCA.out;omega) (by decide) (by decide)).mono ?_
 rintro e V ⟨_,_,rfl,y3,bb⟩
 replace xa:=xa.to bb
 replace xb:=xb.to bb
 replace xc:=xc.to bb
 replace y1:=y1.to bb
 replace y2:=y2.to bb
 replace HB:=Hxb HB bb
 clear bb
 go_wp2_with fail
 refine (mul_x xa y2 8 (by have:=HNA.out;have:=HNB.out;have:=HNC.out;have:=HCA.out;omega) (by decide) (by decide) (by have:=HNA.out;have:=HNB.out;have:=HNC.out;have:=HCA.out;omega) (by have:=HNA.out;have:=HNB.out;have:=HNC.out;have:=HCA.out;omega) (by have:=HNA.out;have:=HNB.out;have:=HNC.out;have:=HCA.out;omega) (by decide) (by decide)).mono ?_
 rintro e V ⟨_,_,rfl,y4,bb⟩
 replace xa:=xa.to bb
 replace xb:=xb.to bb
 replace xc:=xc.to bb
 replace y1:=y1.to bb
 replace y2:=y2.to bb
 replace y3:=y3.to bb
 replace HB:=Hxb HB bb
 clear bb
 go_wp2_with fail
 refine (equal_x y3 y4 (by decide) (by decide) (by have:=HNA.out;have:=HNB.out;have:=HNC.out;have:=HCA.out;omega) (by have:=HNA.out;have:=HNB.out;have:=HNC.out;have:=HCA.out;omega) (by have:=HNA.out;have:=HNB.out;have:=HNC.out;have:=HCA.out;omega) (by have:=HNA.out;have:=HNB.out;have:=HNC.out;have:=HCA.out;omega) (by decide) (ring_1 a b c NA NB NC)).mono ?_
 rintro e V ⟨rfl,bb⟩
 clear y3
 clear y4
 replace xa:=xa.to bb
 replace xb:=xb.to bb
 replace xc:=xc.to bb
 replace y1:=y1.to bb
 replace y2:=y2.to bb
 replace HB:=Hxb HB bb
 clear bb
 go_wp2_with fail
 refine (add_x xb xc (by decide) (by decide) (by have:=HNA.out;have:=HNB.out;have:=HNC.out;have:=HCA.out;omega) (by have:=HNA.out;have:=HNB.out;have:=HNC.out;have:=HCA.out;omega) (by have:=HNA.out;have:=HNB.out;have:=HNC.out;have:=HCA.out;omega) (by have:=HNA.out;have:=HNB.out;have:=HNC.out;have:=HCA.out;omega) (by decide)).mono ?_
 rintro e V ⟨_,ny5,_,rfl,hy5,y5,bb⟩
 replace xa:=xa.to bb
 replace xb:=xb.to bb
 replace xc:=xc.to bb
 replace y1:=y1.to bb
 replace y2:=y2.to bb
 replace HB:=Hxb HB bb
 clear bb
 go_wp2_with fail
 refine (mul_x xa y5 8 (by have:=HNA.out;have:=HNB.out;have:=HNC.out;have:=HCA.out;have:=hy5.out;omega) (by decide) (by decide) (by have:=HNA.out;have:=HNB.out;have:=HNC.out;have:=HCA.out;have:=hy5.out;omega) (by have:=HNA.out;have:=HNB.out;have:=HNC.out;have:=HCA.out;have:=hy5.out;omega) (by have:=HNA.out;have:=HNB.out;have:=HNC.out;have:=HCA.out;have:=hy5.out;omega) (by decide) (by decide)).mono ?_
 rintro e V ⟨_,_,rfl,y6,bb⟩
 clear y5
 replace xa:=xa.to bb
 replace xb:=xb.to bb
 replace xc:=xc.to bb
 replace y1:=y1.to bb
 replace y2:=y2.to bb
 replace HB:=Hxb HB bb
 clear bb
 go_wp2_with fail
 refine (mul_x xa xc 8 (by have:=HNA.out;have:=HNB.out;have:=HNC.out;have:=HCA.out;have:=hy5.out;omega) (by decide) (by decide) (by have:=HNA.out;have:=HNB.out;have:=HNC.out;have:=HCA.out;have:=hy5.out;omega) (by have:=HNA.out;have:=HNB.out;have:=HNC.out;have:=HCA.out;have:=hy5.out;omega) (by have:=HNA.out;have:=HNB.out;have:=HNC.out;have:=HCA.out;have:=hy5.out;omega) (by decide) (by decide)).mono ?_
 rintro e V ⟨_,_,rfl,y7,bb⟩
 replace xa:=xa.to bb
 replace xb:=xb.to bb
 replace xc:=xc.to bb
 replace y1:=y1.to bb
 replace y2:=y2.to bb
 replace y6:=y6.to bb
 replace HB:=Hxb HB bb
 clear bb
 go_wp2_with fail
 refine (add_x y1 y7 (by decide) (by decide) (by have:=HNA.out;have:=HNB.out;have:=HNC.out;have:=HCA.out;have:=hy5.out;omega) (by have:=HNA.out;have:=HNB.out;have:=HNC.out;have:=HCA.out;have:=hy5.out;omega) (by have:=HNA.out;have:=HNB.out;have:=HNC.out;have:=HCA.out;have:=hy5.out;omega) (by have:=HNA.out;have:=HNB.out;have:=HNC.out;have:=HCA.out;have:=hy5.out;omega) (by decide)).mono ?_
 rintro e V ⟨_,ny8,_,rfl,hy8,y8,bb⟩
 clear y7
 replace xa:=xa.to bb
 replace xb:=xb.to bb
 replace xc:=xc.to bb
 replace y1:=y1.to bb
 replace y2:=y2.to bb
 replace y6:=y6.to bb
 replace HB:=Hxb HB bb
 clear bb
 go_wp2_with fail
 refine (equal_x y6 y8 (by decide) (by decide) (by have:=HNA.out;have:=HNB.out;have:=HNC.out;have:=HCA.out;have:=hy5.out;have:=hy8.out;omega) (by have:=HNA.out;have:=HNB.out;have:=HNC.out;have:=HCA.out;have:=hy5.out;have:=hy8.out;omega) (by have:=HNA.out;have:=HNB.out;have:=HNC.out;have:=HCA.out;have:=hy5.out;have:=hy8.out;omega) (by have:=HNA.out;have:=HNB.out;have:=HNC.out;have:=HCA.out;have:=hy5.out;have:=hy8.out;omega) (by decide) (by rw[hy5.out,hy8.out];exact ring_2 a b c NA NB NC)).mono ?_
 rintro e V ⟨rfl,bb⟩
 clear y6
 clear y8
 replace xa:=xa.to bb
 replace xb:=xb.to bb
 replace xc:=xc.to bb
 replace y1:=y1.to bb
 replace y2:=y2.to bb
 replace HB:=Hxb HB bb
 clear bb
 go_wp2_with fail
 refine (add_x xa xb (by decide) (by decide) (by have:=HNA.out;have:=HNB.out;have:=HNC.out;have:=HCA.out;have:=hy5.out;have:=hy8.out;omega) (by have:=HNA.out;have:=HNB.out;have:=HNC.out;have:=HCA.out;have:=hy5.out;have:=hy8.out;omega) (by have:=HNA.out;have:=HNB.out;have:=HNC.out;have:=HCA.out;have:=hy5.out;have:=hy8.out;omega) (by have:=HNA.out;have:=HNB.out;have:=HNC.out;have:=HCA.out;have:=hy5.out;have:=hy8.out;omega) (by decide)).mono ?_
 rintro e V ⟨_,ny9,_,rfl,hy9,y9,bb⟩
 replace xa:=xa.to bb
 replace xb:=xb.to bb
 replace xc:=xc.to bb
 replace y1:=y1.to bb
 replace y2:=y2.to bb
 replace HB:=Hxb HB bb
 clear bb
 go_wp2_with fail
 refine (mul_x y9 xc 8 (by have:=HNA.out;have:=HNB.out;have:=HNC.out;have:=HCA.out;have:=hy5.out;have:=hy8.out;have:=hy9.out;omega) (by decide) (by decide) (by have:=HNA.out;have:=HNB.out;have:=HNC.out;have:=HCA.out;have:=hy5.out;have:=hy8.out;have:=hy9.out;omega) (by have:=HNA.out;have:=HNB.out;have:=HNC.out;have:=HCA.out;have:=hy5.out;have:=hy8.out;have:=hy9.out;omega) (by have:=HNA.out;have:=HNB.out;have:=HNC.out;have:=HCA.out;have:=hy5.out;have:=hy8.out;have:=hy9.out;omega) (by decide) (by decide)).mono ?_
 rintro e V ⟨_,_,rfl,y10,bb⟩
 clear y9
 replace xa:=xa.to bb
 replace xb:=xb.to bb
 replace xc:=xc.to bb
 replace y1:=y1.to bb
 replace y2:=y2.to bb
 replace HB:=Hxb HB bb
 clear bb
 go_wp2_with fail
 refine (mul_x xa xc 8 (by have:=HNA.out;have:=HNB.out;have:=HNC.out;have:=HCA.out;have:=hy5.out;have:=hy8.out;have:=hy9.out;omega) (by decide) (by decide) (by have:=HNA.out;have:=HNB.out;have:=HNC.out;have:=HCA.out;have:=hy5.out;have:=hy8.out;have:=hy9.out;omega) (by have:=HNA.out;have:=HNB.out;have:=HNC.out;have:=HCA.out;have:=hy5.out;have:=hy8.out;have:=hy9.out;omega) (by have:=HNA.out;have:=HNB.out;have:=HNC.out;have:=HCA.out;have:=hy5.out;have:=hy8.out;have:=hy9.out;omega) (by decide) (by decide)).mono ?_
 rintro e V ⟨_,_,rfl,y11,bb⟩
 replace xa:=xa.to bb
 replace xb:=xb.to bb
 replace xc:=xc.to bb
 replace y1:=y1.to bb
 replace y2:=y2.to bb
 replace y10:=y10.to bb
 replace HB:=Hxb HB bb
 clear bb
 go_wp2_with fail
 refine (add_x y11 y2 (by decide) (by decide) (by have:=HNA.out;have:=HNB.out;have:=HNC.out;have:=HCA.out;have:=hy5.out;have:=hy8.out;have:=hy9.out;omega) (by have:=HNA.out;have:=HNB.out;have:=HNC.out;have:=HCA.out;have:=hy5.out;have:=hy8.out;have:=hy9.out;omega) (by have:=HNA.out;have:=HNB.out;have:=HNC.out;have:=HCA.out;have:=hy5.out;have:=hy8.out;have:=hy9.out;omega) (by have:=HNA.out;have:=HNB.out;have:=HNC.out;have:=HCA.out;have:=hy5.out;have:=hy8.out;have:=hy9.out;omega) (by decide)).mono ?_
 rintro e V ⟨_,ny12,_,rfl,hy12,y12,bb⟩
 clear y11
 replace xa:=xa.to bb
 replace xb:=xb.to bb
 replace xc:=xc.to bb
 replace y1:=y1.to bb
 replace y2:=y2.to bb
 replace y10:=y10.to bb
 replace HB:=Hxb HB bb
 clear bb
 go_wp2_with fail
 refine (equal_x y10 y12 (by decide) (by decide) (by have:=HNA.out;have:=HNB.out;have:=HNC.out;have:=HCA.out;have:=hy5.out;have:=hy8.out;have:=hy9.out;have:=hy12.out;omega) (by have:=HNA.out;have:=HNB.out;have:=HNC.out;have:=HCA.out;have:=hy5.out;have:=hy8.out;have:=hy9.out;have:=hy12.out;omega) (by have:=HNA.out;have:=HNB.out;have:=HNC.out;have:=HCA.out;have:=hy5.out;have:=hy8.out;have:=hy9.out;have:=hy12.out;omega) (by have:=HNA.out;have:=HNB.out;have:=HNC.out;have:=HCA.out;have:=hy5.out;have:=hy8.out;have:=hy9.out;have:=hy12.out;omega) (by decide) (by rw[hy9.out,hy12.out];exact ring_3 a b c NA NB NC)).mono ?_
 rintro e V ⟨rfl,bb⟩
 clear y10
 clear y12
 replace xa:=xa.to bb
 replace xb:=xb.to bb
 replace xc:=xc.to bb
 replace y1:=y1.to bb
 replace y2:=y2.to bb
 replace HB:=Hxb HB bb
 clear bb
 go_wp2_with fail
 refine (cols_x xa (by have:=HNA.out;have:=HNB.out;have:=HNC.out;have:=HCA.out;omega) (by decide)).mono ?_
 rintro e V ⟨rfl,bb⟩
 replace xa:=xa.to bb
 replace xb:=xb.to bb
 replace xc:=xc.to bb
 replace y1:=y1.to bb
 replace y2:=y2.to bb
 replace HB:=Hxb HB bb
 clear bb
 go_wp2_with fail
 refine (id_x (n:=colsN a NA) (by have:=HNA.out;have:=HNB.out;have:=HNC.out;have:=HCA.out;omega)).mono ?_
 rintro e V ⟨_,_,rfl,y13,bb⟩
 replace xa:=xa.to bb
 replace xb:=xb.to bb
 replace xc:=xc.to bb
 replace y1:=y1.to bb
 replace y2:=y2.to bb
 replace HB:=Hxb HB bb
 clear bb
 go_wp2_with fail
 refine (mul_x xa y13 8 (by have:=HNA.out;have:=HNB.out;have:=HNC.out;have:=HCA.out;have:=hy5.out;have:=hy8.out;have:=hy9.out;have:=hy12.out;omega) (by decide) (by decide) (by have:=HNA.out;have:=HNB.out;have:=HNC.out;have:=HCA.out;have:=hy5.out;have:=hy8.out;have:=hy9.out;have:=hy12.out;omega) (by have:=HNA.out;have:=HNB.out;have:=HNC.out;have:=HCA.out;have:=hy5.out;have:=hy8.out;have:=hy9.out;have:=hy12.out;omega) (by have:=HNA.out;have:=HNB.out;have:=HNC.out;have:=HCA.out;have:=hy5.out;have:=hy8.out;have:=hy9.out;have:=hy12.out;omega) (by decide) (by decide)).mono ?_
 rintro e V ⟨_,_,rfl,y14,bb⟩
 clear y13
 replace xa:=xa.to bb
 replace xb:=xb.to bb
 replace xc:=xc.to bb
 replace y1:=y1.to bb
 replace y2:=y2.to bb
 replace HB:=Hxb HB bb
 clear bb
 go_wp2_with fail
 refine (equal_x y14 xa (by decide) (by decide) (by have:=HNA.out;have:=HNB.out;have:=HNC.out;have:=HCA.out;have:=hy5.out;have:=hy8.out;have:=hy9.out;have:=hy12.out;omega) (by have:=HNA.out;have:=HNB.out;have:=HNC.out;have:=HCA.out;have:=hy5.out;have:=hy8.out;have:=hy9.out;have:=hy12.out;omega) (by have:=HNA.out;have:=HNB.out;have:=HNC.out;have:=HCA.out;have:=hy5.out;have:=hy8.out;have:=hy9.out;have:=hy12.out;omega) (by have:=HNA.out;have:=HNB.out;have:=HNC.out;have:=HCA.out;have:=hy5.out;have:=hy8.out;have:=hy9.out;have:=hy12.out;omega) (by decide) (ring_4 a NA (by have:=HNA.out;have:=HNB.out;have:=HNC.out;have:=HCA.out;omega))).mono ?_
 rintro e V ⟨rfl,bb⟩
 clear y14
 replace xa:=xa.to bb
 replace xb:=xb.to bb
 replace xc:=xc.to bb
 replace y1:=y1.to bb
 replace y2:=y2.to bb
 replace HB:=Hxb HB bb
 clear bb
 go_wp2_with fail
 refine (id_x (n:=NA) (by have:=HNA.out;have:=HNB.out;have:=HNC.out;have:=HCA.out;omega)).mono ?_
 rintro e V ⟨_,_,rfl,y15,bb⟩
 replace xa:=xa.to bb
 replace xb:=xb.to bb
 replace xc:=xc.to bb
 replace y1:=y1.to bb
 replace y2:=y2.to bb
 replace HB:=Hxb HB bb
 clear bb
 go_wp2_with fail
 refine (mul_x y15 xa 8 (by have:=HNA.out;have:=HNB.out;have:=HNC.out;have:=HCA.out;have:=hy5.out;have:=hy8.out;have:=hy9.out;have:=hy12.out;omega) (by decide) (by decide) (by have:=HNA.out;have:=HNB.out;have:=HNC.out;have:=HCA.out;have:=hy5.out;have:=hy8.out;have:=hy9.out;have:=hy12.out;omega) (by have:=HNA.out;have:=HNB.out;have:=HNC.out;have:=HCA.out;have:=hy5.out;have:=hy8.out;have:=hy9.out;have:=hy12.out;omega) (by have:=HNA.out;have:=HNB.out;have:=HNC.out;have:=HCA.out;have:=hy5.out;have:=hy8.out;have:=hy9.out;have:=hy12.out;omega) (by decide) (by decide)).mono ?_
 rintro e V ⟨_,_,rfl,y16,bb⟩
 clear y15
 replace xa:=xa.to bb
 replace xb:=xb.to bb
 replace xc:=xc.to bb
 replace y1:=y1.to bb
 replace y2:=y2.to bb
 replace HB:=Hxb HB bb
 clear bb
 go_wp2_with fail
 refine (equal_x y16 xa (by decide) (by decide) (by have:=HNA.out;have:=HNB.out;have:=HNC.out;have:=HCA.out;have:=hy5.out;have:=hy8.out;have:=hy9.out;have:=hy12.out;omega) (by have:=HNA.out;have:=HNB.out;have:=HNC.out;have:=HCA.out;have:=hy5.out;have:=hy8.out;have:=hy9.out;have:=hy12.out;omega) (by have:=HNA.out;have:=HNB.out;have:=HNC.out;have:=HCA.out;have:=hy5.out;have:=hy8.out;have:=hy9.out;have:=hy12.out;omega) (by have:=HNA.out;have:=HNB.out;have:=HNC.out;have:=HCA.out;have:=hy5.out;have:=hy8.out;have:=hy9.out;have:=hy12.out;omega) (by decide) (ring_5 a NA (by have:=HNA.out;have:=HNB.out;have:=HNC.out;have:=HCA.out;omega))).mono ?_
 rintro e V ⟨rfl,bb⟩
 clear y16
 replace xa:=xa.to bb
 replace xb:=xb.to bb
 replace xc:=xc.to bb
 replace y1:=y1.to bb
 replace y2:=y2.to bb
 replace HB:=Hxb HB bb
 clear bb
 go_wp2_with fail
 refine (add_x xa xb (by decide) (by decide) (by have:=HNA.out;have:=HNB.out;have:=HNC.out;have:=HCA.out;have:=hy5.out;have:=hy8.out;have:=hy9.out;have:=hy12.out;omega) (by have:=HNA.out;have:=HNB.out;have:=HNC.out;have:=HCA.out;have:=hy5.out;have:=hy8.out;have:=hy9.out;have:=hy12.out;omega) (by have:=HNA.out;have:=HNB.out;have:=HNC.out;have:=HCA.out;have:=hy5.out;have:=hy8.out;have:=hy9.out;have:=hy12.out;omega) (by have:=HNA.out;have:=HNB.out;have:=HNC.out;have:=HCA.out;have:=hy5.out;have:=hy8.out;have:=hy9.out;have:=hy12.out;omega) (by decide)).mono ?_
 rintro e V ⟨_,ny17,_,rfl,hy17,y17,bb⟩
 replace xa:=xa.to bb
 replace xb:=xb.to bb
 replace xc:=xc.to bb
 replace y1:=y1.to bb
 replace y2:=y2.to bb
 replace HB:=Hxb HB bb
 clear bb
 go_wp2_with fail
 refine (add_x xb xa (by decide) (by decide) (by have:=HNA.out;have:=HNB.out;have:=HNC.out;have:=HCA.out;have:=hy5.out;have:=hy8.out;have:=hy9.out;have:=hy12.out;have:=hy17.out;omega) (by have:=HNA.out;have:=HNB.out;have:=HNC.out;have:=HCA.out;have:=hy5.out;have:=hy8.out;have:=hy9.out;have:=hy12.out;have:=hy17.out;omega) (by have:=HNA.out;have:=HNB.out;have:=HNC.out;have:=HCA.out;have:=hy5.out;have:=hy8.out;have:=hy9.out;have:=hy12.out;have:=hy17.out;omega) (by have:=HNA.out;have:=HNB.out;have:=HNC.out;have:=HCA.out;have:=hy5.out;have:=hy8.out;have:=hy9.out;have:=hy12.out;have:=hy17.out;omega) (by decide)).mono ?_
 rintro e V ⟨_,ny18,_,rfl,hy18,y18,bb⟩
 replace xa:=xa.to bb
 replace xb:=xb.to bb
 replace xc:=xc.to bb
 replace y1:=y1.to bb
 replace y2:=y2.to bb
 replace y17:=y17.to bb
 replace HB:=Hxb HB bb
 clear bb
 go_wp2_with fail
 refine (equal_x y17 y18 (by decide) (by decide) (by have:=HNA.out;have:=HNB.out;have:=HNC.out;have:=HCA.out;have:=hy5.out;have:=hy8.out;have:=hy9.out;have:=hy12.out;have:=hy17.out;have:=hy18.out;omega) (by have:=HNA.out;have:=HNB.out;have:=HNC.out;have:=HCA.out;have:=hy5.out;have:=hy8.out;have:=hy9.out;have:=hy12.out;have:=hy17.out;have:=hy18.out;omega) (by have:=HNA.out;have:=HNB.out;have:=HNC.out;have:=HCA.out;have:=hy5.out;have:=hy8.out;have:=hy9.out;have:=hy12.out;have:=hy17.out;have:=hy18.out;omega) (by have:=HNA.out;have:=HNB.out;have:=HNC.out;have:=HCA.out;have:=hy5.out;have:=hy8.out;have:=hy9.out;have:=hy12.out;have:=hy17.out;have:=hy18.out;omega) (by decide) (by rw[hy17.out,hy18.out];exact ring_6 a b NA NB)).mono ?_
 rintro e V ⟨rfl,bb⟩
 clear y17
 clear y18
 replace xa:=xa.to bb
 replace xb:=xb.to bb
 replace xc:=xc.to bb
 replace y1:=y1.to bb
 replace y2:=y2.to bb
 replace HB:=Hxb HB bb
 clear bb
 go_wp2_with fail
 refine (malive_any _).mono ?_
 rintro e V ⟨rfl,bb⟩
 replace HB:=Hxb HB bb
 clear bb
 go_wp2
 go_ret
 exact ⟨rfl,HB.out⟩
theorem mring_any {w:World}{A B C:MA}(v1:MIn w A)(v2:MIn w B)(v3:MIn w C) :
  Calls Tryz.prog 6 #[.slice A.P A.N A.C,.slice B.P B.N B.C,.slice C.P C.N C.C] w fun e w'=>e=.returned (.bool true)/\Below w.heap.size w w':=by
 cases hl:[A,B,C].any lngM with
 | true=>exact mring_long v1 v2 v3 hl
 | false =>
  have hl':=hl
  simp only[List.any_cons,List.any_nil,Bool.or_false,Bool.or_eq_false_iff]at hl'
  obtain ⟨a,ha,na,la⟩:=v1.mi hl'.1
  obtain ⟨b,hb,nb,lb⟩:=v2.mi hl'.2.1
  obtain ⟨c,hc,nc,lc⟩:=v3.mi hl'.2.2
  have q:∀{M:MA} {rs:Nat->List Rat},Mi w M.P M.N M.C rs 6->∀k,k<M.N->∀j,Qm 6 ((rs k).getD j 0):=fun h k hk j=>by
   obtain ⟨b,o,A,c,es,e,h1,h2,h3⟩:=h.row k hk
   exact (h3.el j).qm (by decide)
  exact mring_core v1 v2 v3 hl ⟨ha,q ha,la⟩ ⟨hb,q hb,lb⟩ ⟨hc,q hc,lc⟩ na nb nc
theorem mring_row {w:World}{P0 P1 P2:Option Addr}{N0 N1 N2 C0 C1 C2:Nat}{vs0 vs1 vs2:Nat->VA}
  (n0:N0<=9223372036854775807) (h0:∀i,i<N0->∃b o,P0=some ⟨b,o,none⟩/\b<w.heap.size/\w.cell? ⟨b,o+i,none⟩=some (.slice (vs0 i).A (vs0 i).es.length (vs0 i).c)) (v0:∀i,i<N0->VIn w (vs0 i))
  (n1:N1<=9223372036854775807) (h1:∀i,i<N1->∃b o,P1=some ⟨b,o,none⟩/\b<w.heap.size/\w.cell? ⟨b,o+i,none⟩=some (.slice (vs1 i).A (vs1 i).es.length (vs1 i).c)) (v1:∀i,i<N1->VIn w (vs1 i))
  (n2:N2<=9223372036854775807) (h2:∀i,i<N2->∃b o,P2=some ⟨b,o,none⟩/\b<w.heap.size/\w.cell? ⟨b,o+i,none⟩=some (.slice (vs2 i).A (vs2 i).es.length (vs2 i).c)) (v2:∀i,i<N2->VIn w (vs2 i)) :
  Calls Tryz.prog 6 #[.slice P0 N0 C0,.slice P1 N1 C1,.slice P2 N2 C2] w fun e w'=>e=.returned (.bool true)/\Below w.heap.size w w' :=
 mring_any (A:=⟨P0,N0,C0,vs0⟩) (B:=⟨P1,N1,C1,vs1⟩) (C:=⟨P2,N2,C2,vs2⟩) ⟨h0,v0,n0⟩ ⟨h1,v1,n1⟩ ⟨h2,v2,n2⟩
end Go.Proofs.YtglhdielkkhefaaGreat
