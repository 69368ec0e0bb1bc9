/- Parts: 8. -/
import Derived.Test.YtglhdielkkhefaaGreatMs17
import Derived.Test.YtglhdielkkhefaaGreatMs18
set_option linter.unusedVariables false
set_option linter.unusedSimpArgs false
set_option maxRecDepth 100000
set_option maxHeartbeats 40000000

namespace Go.Proofs.YtglhdielkkhefaaGreat
open Go.RowKit Go.Shelf
theorem op_storeq {W:World}{d:Option Tmp}{ty:TypeId}{pos:String}{after:Array Edge}{guard:Option (Nat×Bool)}{a:Act}{K:Act->World->Prop}{Q:Exit->Act->World->Prop}{g k:Nat}{fl:List E4}{e:E4}{p v:Operand}
  (hp:a.eval p=.pointer (some ⟨g,k*4,none⟩)) (hv:a.eval v=e.v) (h:Row W g fl) (hk:k<fl.length) (he:e.fq) (hK:K (a.put d undef) (W.setRow g (flat (fl.set k e)).toArray)) :
  Oper.wp Tryz.prog ⟨d,.store 32 p v,ty,pos,after,guard⟩ a W K Q:=by
 have hrun:=run_storeq h hk he
 unfold Oper.wp
 simp[execOp,hp,hv,hrun,Result.andThen]
 exact hK
theorem wpListIn_storeq {F:Fence}{n:Nat}{W:World}{ops:Array Oper}{rest:List Oper}{o:Oper}{a:Act}{Q:Exit->Act->World->Prop}{g k:Nat}{fl:List E4}{e:E4}
  (hg:o.guard=none) (p v:Operand) (hop:o.op=Op.store 32 p v) (hp:a.eval p=.pointer (some ⟨g,k*4,none⟩)) (hv:a.eval v=e.v) (h:Row W g fl) (hk:k<fl.length) (he:e.fq)
  (hK:wpListIn F n Tryz.prog ops Q rest (a.put o.dst undef) (W.setRow g (flat (fl.set k e)).toArray)):wpListIn F n Tryz.prog ops Q (o::rest) a W:=by
 refine wpListIn_plain hg fun K hK'=>?_
 have hrun:=run_storeq h hk he
 unfold Oper.wpIn
 refine ⟨?_,?_⟩
 .simp[Oper.about,hop]
 .rw[Oper.semAt_plain F _ _ (by rw[hop];intro c hc';cases hc')]
  simp[execOp,hop,hp,hv,hrun,Result.andThen]
  exact hK' _ _ hK
theorem Row.four {W:World}{g:Nat}{e:E4}(h:Row W g [e]):Four W g e.a e.b e.c e.d:=Four.of h.heap
theorem Row.one {W:World}{g:Nat}{a b c d:Value}(h:Hp W g (.cells #[a,b,c,d] 32 (0,0)))(hf:Fq a b c d):Row W g [⟨a,b,c,d⟩]:=⟨h,fun e he=>by rw[List.mem_singleton.1 he];exact hf⟩
def DotR (w:World)(tot:Nat)(T:Rat)(e:Ending)(w':World):Prop :=
 (∃v,e=.returned v)/\∃E,Row w' tot [E]/\Qc w' E.a E.b E.c E.d T/\w.heap.size<=w'.heap.size/\(∀j,j<w.heap.size->j≠tot->w'.heap[j]?=w.heap[j]?)/\∀B,B<=tot->Below B w w'
theorem DotR.of {w V:World}{tot:Nat}{T:Rat}{v:Value}{E:E4}(hE:Row w tot [E])(qE:Qc w E.a E.b E.c E.d T)(h:Below w.heap.size w V):DotR w tot T (.returned v) V :=
 ⟨⟨_,rfl⟩,E,hE.to h,qE.to h,h.size,fun j hj _=>h.block j hj,fun B hB=>h.mono (by have:=hE.lt;omega)⟩
theorem dot1_z {w:World}{a1 a2 a3 a4 b1 b2 b3 b4:Value}{r s t:Rat}{k l m tot:Nat}{E:E4}(hT:Row w tot [E])(qT:Qc w E.a E.b E.c E.d t)(hA:Qi w a1 a2 a3 a4 r k)(hB:Qi w b1 b2 b3 b4 s l)(h0:r=0∨s=0) :
  Calls Tryz.prog 88 #[.agg #[a1,a2,a3,a4],.agg #[b1,b2,b3,b4],.pointer (some ⟨tot,0,none⟩)] w (DotR w tot (t+r*s)):=by
 have hz:Hid (decide (r=0∨s=0)=true):=decide_eq_true h0
 have he:t+r*s=t:=by rcases h0 with h0|h0<;>rw[h0]<;>simp[Rat.zero_mul,Rat.mul_zero,Rat.add_zero]
 rw[he]
 have HT:=Hd hT
 have QT:=Hd qT
 clear h0 he hT qT
 obtain ⟨W0,hW0⟩:∃W0,W0=(w.alloc (.cells #[a1,a2,a3,a4] 32)).alloc (.cells #[b1,b2,b3,b4] 32):=⟨_,rfl⟩
 have hbw:Below w.heap.size w W0:=by rw[hW0];exact (((Below.refl _ _).alloc (Nat.le_refl _) _).alloc (by simp) _)
 have tA:Four W0 (w.heap.size) a1 a2 a3 a4:=by
  have h:=Four.new w a1 a2 a3 a4 32
  rw[hW0];exact (h.alloc _)
 have tB:Four W0 (w.heap.size+1) b1 b2 b3 b4:=by
  have h:=Four.new (w.alloc (.cells #[a1,a2,a3,a4] 32)) b1 b2 b3 b4 32
  rw[World.size_alloc]at h
  rw[hW0];exact h
 replace hA:=hA.to hbw
 replace hB:=hB.to hbw
 have HW0:=Hd hW0
 have HB:=Hd hbw
 clear hW0 hbw
 go_enter Tryz.func88,Tryz.ntmps88
 go_wp2_with fail
 rw[<-HW0.out]
 clear HW0
 have kktA0:=tA.c0
 have kktA1:=tA.c1
 have kktA2:=tA.c2
 have kktA3:=tA.c3
 have kktB0:=tB.c0
 have kktB1:=tB.c1
 have kktB2:=tB.c2
 have kktB3:=tB.c3
 go_wp2_with fail
 refine (zp_v hA hB hz.out).mono ?_
 rintro e V1 ⟨rfl,bb⟩
 clear kktA0 kktA1 kktA2 kktA3 kktB0 kktB1 kktB2 kktB3
 replace tA:=tA.to bb
 replace tB:=tB.to bb
 replace HB:=Hxb HB bb
 clear bb
 clear tA tB
 go_wp2
 refine bodyPost_ret (results_none rfl _ _ _) rfl ?_
 exact DotR.of HT.out QT.out HB.out
theorem dot1_n {w:World}{a1 a2 a3 a4 b1 b2 b3 b4:Value}{r s t:Rat}{k l m tot:Nat}{E:E4}(hT:Row w tot [E])(qT:Qc w E.a E.b E.c E.d t)(hA:Qi w a1 a2 a3 a4 r k)(hB:Qi w b1 b2 b3 b4 s l)(h0:¬(r=0∨s=0))(mT:Qm m t)(hk:0<k)(hl:0<l)(hkl:k+l+1<=10000)(hm:m+(k+l)+1<=10000) :
  Calls Tryz.prog 88 #[.agg #[a1,a2,a3,a4],.agg #[b1,b2,b3,b4],.pointer (some ⟨tot,0,none⟩)] w (DotR w tot (t+r*s)):=by
 have hz:Hid (decide (r=0∨s=0)=false):=decide_eq_false h0
 have mP:Qm (k+l) (r*s):=(hA.qm hk).mul (hB.qm hl)
 have hm0:=mT.pos
 have hM:Hid (∀(V:World),Qi V a1 a2 a3 a4 r k->Qi V b1 b2 b3 b4 s l->Calls Tryz.prog 91 #[.agg #[a1,a2,a3,a4],.agg #[b1,b2,b3,b4]] V (QR V (r*s))):=fun V h h'=>mul_q h h' hk hl hkl
 have hS:Hid (∀(V:World) (x1 x2 x3 x4 y1 y2 y3 y4:Value),Qc V x1 x2 x3 x4 t->Qc V y1 y2 y3 y4 (r*s)->Calls Tryz.prog 90 #[.agg #[x1,x2,x3,x4],.agg #[y1,y2,y3,y4]] V (QR V (t+r*s))):=fun V x1 x2 x3 x4 y1 y2 y3 y4 h h'=>add_q (h.qi mT (by omega)) (h'.qi mP (by omega)) (by omega) (by omega) hm
 have hlt:tot<w.heap.size:=hT.lt
 have hT0:=Hd hT
 clear h0 mP mT hm0
 obtain ⟨W0,hW0⟩:∃W0,W0=(w.alloc (.cells #[a1,a2,a3,a4] 32)).alloc (.cells #[b1,b2,b3,b4] 32):=⟨_,rfl⟩
 have hbw:Below w.heap.size w W0:=by rw[hW0];exact (((Below.refl _ _).alloc (Nat.le_refl _) _).alloc (by simp) _)
 have tA:Four W0 (w.heap.size) a1 a2 a3 a4:=by
  have h:=Four.new w a1 a2 a3 a4 32
  rw[hW0];exact (h.alloc _)
 have tB:Four W0 (w.heap.size+1) b1 b2 b3 b4:=by
  have h:=Four.new (w.alloc (.cells #[a1,a2,a3,a4] 32)) b1 b2 b3 b4 32
  rw[World.size_alloc]at h
  rw[hW0];exact h
 replace hA:=hA.to hbw
 replace hB:=hB.to hbw
 replace hT:=hT.to hbw
 replace qT:=qT.to hbw
 have HW0:=Hd hW0
 have HB:=Hd hbw
 clear hW0 hbw
 go_enter Tryz.func88,Tryz.ntmps88
 go_wp2_with fail
 rw[<-HW0.out]
 clear HW0
 have kktA0:=tA.c0
 have kktA1:=tA.c1
 have kktA2:=tA.c2
 have kktA3:=tA.c3
 have kktB0:=tB.c0
 have kktB1:=tB.c1
 have kktB2:=tB.c2
 have kktB3:=tB.c3
 go_wp2_with fail
 refine (zp_v hA hB hz.out).mono ?_
 rintro e V1 ⟨rfl,bb⟩
 clear kktA0 kktA1 kktA2 kktA3 kktB0 kktB1 kktB2 kktB3
 replace tA:=tA.to bb
 replace tB:=tB.to bb
 replace hA:=hA.to bb
 replace hB:=hB.to bb
 replace hT:=hT.to bb
 replace qT:=qT.to bb
 replace HB:=Hxb HB bb
 clear bb
 obtain ⟨e1,e2,e3,e4⟩:=E
 clear hz
 go_wp2_with fail
 have hbw:=HB.out
 obtain ⟨W1,hW1⟩:∃W1,W1=V1:=⟨_,rfl⟩
 rw[<-hW1]at hbw hA hB hT qT tA tB ⊢
 clear hW1 HB
 refine wp_region_planTo (S:=fun _=>True) [] #[false,false,false,false,false,false] 6 (by kernel_rfl) (by kernel_rfl) trivial ?_
 intro _
 refine dag (fun G up dn=>?_)
 have D01234:∀(V:World) (hV:Below W1.heap.size W1 V) (m1 m2 m3 m4 s1 s2 s3 s4:Value) (hQ:Qc V s1 s2 s3 s4 (t+r*s)),G 1 #[true,true,true,true,true,false] ⟨#[.agg #[a1,a2,a3,a4],.agg #[b1,b2,b3,b4],.pointer (some ⟨tot,0,none⟩),.pointer (some ⟨w.heap.size,0,none⟩),.pointer (some ⟨w.heap.size+1,0,none⟩),.agg #[a1,a2,a3,a4],.agg #[b1,b2,b3,b4],.bool false,.bool true,.agg #[e1,e2,e3,e4],.agg #[a1,a2,a3,a4],.agg #[b1,b2,b3,b4],.agg #[m1,m2,m3,m4],.agg #[s1,s2,s3,s4]],[]⟩ V:=by
  intro V hV m1 m2 m3 m4 s1 s2 s3 s4 hQ
  refine up ?_
  refine rdy1 (i:=5) (by kernel_rfl) rfl (by rfl) (fun K hK=>?_)
  have hr:=hT.to hV
  refine op_storeq (k:=0) (e:=⟨s1,s2,s3,s4⟩) (by rfl) (by rfl) hr (by simp) hQ.fq ?_
  refine hK.out _ _ trivial ?_
  clear hK K
  have FIN:Hid (∀v,DotR w tot (t+r*s) (.returned v) (V.setRow tot (flat ([⟨e1,e2,e3,e4⟩].set 0 ⟨s1,s2,s3,s4⟩)).toArray)):=fun v=>by
   have h1:=hr.app (n:=0) (e:=⟨s1,s2,s3,s4⟩) hQ.fq
   have kw:Kw V (V.setRow tot (flat ([⟨e1,e2,e3,e4⟩].set 0 ⟨s1,s2,s3,s4⟩)).toArray):=hr.kw
   have h2:=Bxb hbw hV
   exact ⟨⟨_,rfl⟩,⟨s1,s2,s3,s4⟩,h1,kw.qc hQ,by rw[setRow_size];exact h2.size,fun j hj hne=>(setRow_other _ _ _ _ hne).trans (h2.block j hj),fun B hB=>below_setRow (h2.mono (by omega)) hB _⟩
  clear hr hQ
  refine wpAnyH_done (by kernel_rfl) ?_ _
  show NoPanic _ _ _ _
  go_wp2
  refine bodyPost_ret (results_none rfl _ _ _) rfl ?_
  exact FIN.out _
 have D0123:∀(V:World) (hV:Below W1.heap.size W1 V) (m1 m2 m3 m4:Value) (hQ:Qc V m1 m2 m3 m4 (r*s)),G 2 #[true,true,true,true,false,false] ⟨#[.agg #[a1,a2,a3,a4],.agg #[b1,b2,b3,b4],.pointer (some ⟨tot,0,none⟩),.pointer (some ⟨w.heap.size,0,none⟩),.pointer (some ⟨w.heap.size+1,0,none⟩),.agg #[a1,a2,a3,a4],.agg #[b1,b2,b3,b4],.bool false,.bool true,.agg #[e1,e2,e3,e4],.agg #[a1,a2,a3,a4],.agg #[b1,b2,b3,b4],.agg #[m1,m2,m3,m4],undef],[]⟩ V:=by
  intro V hV m1 m2 m3 m4 hQ
  refine up ?_
  refine rdy1 (i:=4) (by kernel_rfl) rfl (by rfl) (fun K hK=>?_)
  go_simp
  refine (hS.out V _ _ _ _ _ _ _ _ (qT.to hV) hQ).mono ?_
  rintro e U ⟨s1,s2,s3,s4,rfl,hQ2,bb⟩
  refine hK.out _ _ trivial ?_
  exact dn (D01234 U (Bxb hV bb) m1 m2 m3 m4 s1 s2 s3 s4 hQ2)
 have D012:∀(V:World) (hV:Below W1.heap.size W1 V),G 3 #[true,true,true,false,false,false] ⟨#[.agg #[a1,a2,a3,a4],.agg #[b1,b2,b3,b4],.pointer (some ⟨tot,0,none⟩),.pointer (some ⟨w.heap.size,0,none⟩),.pointer (some ⟨w.heap.size+1,0,none⟩),.agg #[a1,a2,a3,a4],.agg #[b1,b2,b3,b4],.bool false,.bool true,.agg #[e1,e2,e3,e4],.agg #[a1,a2,a3,a4],.agg #[b1,b2,b3,b4],undef,undef],[]⟩ V:=by
  intro V hV
  refine up ?_
  refine rdy1 (i:=3) (by kernel_rfl) rfl (by rfl) (fun K hK=>?_)
  go_simp
  refine (hM.out V (hA.to hV) (hB.to hV)).mono ?_
  rintro e U ⟨m1,m2,m3,m4,rfl,hQ,bb⟩
  refine hK.out _ _ trivial ?_
  exact dn (D0123 U (Bxb hV bb) m1 m2 m3 m4 hQ)
 have D123:∀(V:World) (hV:Below W1.heap.size W1 V) (m1 m2 m3 m4:Value) (hQ:Qc V m1 m2 m3 m4 (r*s)),G 3 #[false,true,true,true,false,false] ⟨#[.agg #[a1,a2,a3,a4],.agg #[b1,b2,b3,b4],.pointer (some ⟨tot,0,none⟩),.pointer (some ⟨w.heap.size,0,none⟩),.pointer (some ⟨w.heap.size+1,0,none⟩),.agg #[a1,a2,a3,a4],.agg #[b1,b2,b3,b4],.bool false,.bool true,undef,.agg #[a1,a2,a3,a4],.agg #[b1,b2,b3,b4],.agg #[m1,m2,m3,m4],undef],[]⟩ V:=by
  intro V hV m1 m2 m3 m4 hQ
  refine up ?_
  refine rdy1 (i:=0) (by kernel_rfl) rfl (by rfl) (fun K hK=>?_)
  have cc:=(hT.to hV).four
  have c0:=cc.c0
  have c1:=cc.c1
  have c2:=cc.c2
  have c3:=cc.c3
  go_simp
  refine hK.out _ _ trivial ?_
  exact dn (D0123 V hV m1 m2 m3 m4 hQ)
 have D01:∀(V:World) (hV:Below W1.heap.size W1 V),G 4 #[true,true,false,false,false,false] ⟨#[.agg #[a1,a2,a3,a4],.agg #[b1,b2,b3,b4],.pointer (some ⟨tot,0,none⟩),.pointer (some ⟨w.heap.size,0,none⟩),.pointer (some ⟨w.heap.size+1,0,none⟩),.agg #[a1,a2,a3,a4],.agg #[b1,b2,b3,b4],.bool false,.bool true,.agg #[e1,e2,e3,e4],.agg #[a1,a2,a3,a4],undef,undef,undef],[]⟩ V:=by
  intro V hV
  refine up ?_
  refine rdy1 (i:=2) (by kernel_rfl) rfl (by rfl) (fun K hK=>?_)
  have cc:=tB.to hV
  have c0:=cc.c0
  have c1:=cc.c1
  have c2:=cc.c2
  have c3:=cc.c3
  go_simp
  refine hK.out _ _ trivial ?_
  exact dn (D012 V hV)
 have D02:∀(V:World) (hV:Below W1.heap.size W1 V),G 4 #[true,false,true,false,false,false] ⟨#[.agg #[a1,a2,a3,a4],.agg #[b1,b2,b3,b4],.pointer (some ⟨tot,0,none⟩),.pointer (some ⟨w.heap.size,0,none⟩),.pointer (some ⟨w.heap.size+1,0,none⟩),.agg #[a1,a2,a3,a4],.agg #[b1,b2,b3,b4],.bool false,.bool true,.agg #[e1,e2,e3,e4],undef,.agg #[b1,b2,b3,b4],undef,undef],[]⟩ V:=by
  intro V hV
  refine up ?_
  refine rdy1 (i:=1) (by kernel_rfl) rfl (by rfl) (fun K hK=>?_)
  have cc:=tA.to hV
  have c0:=cc.c0
  have c1:=cc.c1
  have c2:=cc.c2
  have c3:=cc.c3
  go_simp
  refine hK.out _ _ trivial ?_
  exact dn (D012 V hV)
 have D12:∀(V:World) (hV:Below W1.heap.size W1 V),G 4 #[false,true,true,false,false,false] ⟨#[.agg #[a1,a2,a3,a4],.agg #[b1,b2,b3,b4],.pointer (some ⟨tot,0,none⟩),.pointer (some ⟨w.heap.size,0,none⟩),.pointer (some ⟨w.heap.size+1,0,none⟩),.agg #[a1,a2,a3,a4],.agg #[b1,b2,b3,b4],.bool false,.bool true,undef,.agg #[a1,a2,a3,a4],.agg #[b1,b2,b3,b4],undef,undef],[]⟩ V:=by
  intro V hV
  refine up ?_
  refine wpAnyH_ready (rs:=[0,3]) (by kernel_rfl) (by simp) (ready_cons rfl (by rfl) (fun K hK=>?_) (ready_cons rfl (by rfl) (fun K hK=>?_) AllReadyH.nil))
  .have cc:=(hT.to hV).four
   have c0:=cc.c0
   have c1:=cc.c1
   have c2:=cc.c2
   have c3:=cc.c3
   go_simp
   refine hK.out _ _ trivial ?_
   exact dn (D012 V hV)
  .go_simp
   refine (hM.out V (hA.to hV) (hB.to hV)).mono ?_
   rintro e U ⟨m1,m2,m3,m4,rfl,hQ,bb⟩
   refine hK.out _ _ trivial ?_
   exact dn (D123 U (Bxb hV bb) m1 m2 m3 m4 hQ)
 have D0:∀(V:World) (hV:Below W1.heap.size W1 V),G 5 #[true,false,false,false,false,false] ⟨#[.agg #[a1,a2,a3,a4],.agg #[b1,b2,b3,b4],.pointer (some ⟨tot,0,none⟩),.pointer (some ⟨w.heap.size,0,none⟩),.pointer (some ⟨w.heap.size+1,0,none⟩),.agg #[a1,a2,a3,a4],.agg #[b1,b2,b3,b4],.bool false,.bool true,.agg #[e1,e2,e3,e4],undef,undef,undef,undef],[]⟩ V:=by
  intro V hV
  refine up ?_
  refine wpAnyH_ready (rs:=[1,2]) (by kernel_rfl) (by simp) (ready_cons rfl (by rfl) (fun K hK=>?_) (ready_cons rfl (by rfl) (fun K hK=>?_) AllReadyH.nil))
  .have cc:=tA.to hV
   have c0:=cc.c0
   have c1:=cc.c1
   have c2:=cc.c2
   have c3:=cc.c3
   go_simp
   refine hK.out _ _ trivial ?_
   exact dn (D01 V hV)
  .have cc:=tB.to hV
   have c0:=cc.c0
   have c1:=cc.c1
   have c2:=cc.c2
   have c3:=cc.c3
   go_simp
   refine hK.out _ _ trivial ?_
   exact dn (D02 V hV)
 have D1:∀(V:World) (hV:Below W1.heap.size W1 V),G 5 #[false,true,false,false,false,false] ⟨#[.agg #[a1,a2,a3,a4],.agg #[b1,b2,b3,b4],.pointer (some ⟨tot,0,none⟩),.pointer (some ⟨w.heap.size,0,none⟩),.pointer (some ⟨w.heap.size+1,0,none⟩),.agg #[a1,a2,a3,a4],.agg #[b1,b2,b3,b4],.bool false,.bool true,undef,.agg #[a1,a2,a3,a4],undef,undef,undef],[]⟩ V:=by
  intro V hV
  refine up ?_
  refine wpAnyH_ready (rs:=[0,2]) (by kernel_rfl) (by simp) (ready_cons rfl (by rfl) (fun K hK=>?_) (ready_cons rfl (by rfl) (fun K hK=>?_) AllReadyH.nil))
  .have cc:=(hT.to hV).four
   have c0:=cc.c0
   have c1:=cc.c1
   have c2:=cc.c2
   have c3:=cc.c3
   go_simp
   refine hK.out _ _ trivial ?_
   exact dn (D01 V hV)
  .have cc:=tB.to hV
   have c0:=cc.c0
   have c1:=cc.c1
   have c2:=cc.c2
   have c3:=cc.c3
   go_simp
   refine hK.out _ _ trivial ?_
   exact dn (D12 V hV)
 have D2:∀(V:World) (hV:Below W1.heap.size W1 V),G 5 #[false,false,true,false,false,false] ⟨#[.agg #[a1,a2,a3,a4],.agg #[b1,b2,b3,b4],.pointer (some ⟨tot,0,none⟩),.pointer (some ⟨w.heap.size,0,none⟩),.pointer (some ⟨w.heap.size+1,0,none⟩),.agg #[a1,a2,a3,a4],.agg #[b1,b2,b3,b4],.bool false,.bool true,undef,undef,.agg #[b1,b2,b3,b4],undef,undef],[]⟩ V:=by
  intro V hV
  refine up ?_
  refine wpAnyH_ready (rs:=[0,1]) (by kernel_rfl) (by simp) (ready_cons rfl (by rfl) (fun K hK=>?_) (ready_cons rfl (by rfl) (fun K hK=>?_) AllReadyH.nil))
  .have cc:=(hT.to hV).four
   have c0:=cc.c0
   have c1:=cc.c1
   have c2:=cc.c2
   have c3:=cc.c3
   go_simp
   refine hK.out _ _ trivial ?_
   exact dn (D02 V hV)
  .have cc:=tA.to hV
   have c0:=cc.c0
   have c1:=cc.c1
   have c2:=cc.c2
   have c3:=cc.c3
   go_simp
   refine hK.out _ _ trivial ?_
   exact dn (D12 V hV)
 have D:∀(V:World) (hV:Below W1.heap.size W1 V),G 6 #[false,false,false,false,false,false] ⟨#[.agg #[a1,a2,a3,a4],.agg #[b1,b2,b3,b4],.pointer (some ⟨tot,0,none⟩),.pointer (some ⟨w.heap.size,0,none⟩),.pointer (some ⟨w.heap.size+1,0,none⟩),.agg #[a1,a2,a3,a4],.agg #[b1,b2,b3,b4],.bool false,.bool true,undef,undef,undef,undef,undef],[]⟩ V:=by
  intro V hV
  refine up ?_
  refine wpAnyH_ready (rs:=[0,1,2]) (by kernel_rfl) (by simp) (ready_cons rfl (by rfl) (fun K hK=>?_) (ready_cons rfl (by rfl) (fun K hK=>?_) (ready_cons rfl (by rfl) (fun K hK=>?_) AllReadyH.nil)))
  .have cc:=(hT.to hV).four
   have c0:=cc.c0
   have c1:=cc.c1
   have c2:=cc.c2
   have c3:=cc.c3
   go_simp
   refine hK.out _ _ trivial ?_
   exact dn (D0 V hV)
  .have cc:=tA.to hV
   have c0:=cc.c0
   have c1:=cc.c1
   have c2:=cc.c2
   have c3:=cc.c3
   go_simp
   refine hK.out _ _ trivial ?_
   exact dn (D1 V hV)
  .have cc:=tB.to hV
   have c0:=cc.c0
   have c1:=cc.c1
   have c2:=cc.c2
   have c3:=cc.c3
   go_simp
   refine hK.out _ _ trivial ?_
   exact dn (D2 V hV)
 exact D _ (Below.refl _ _).drew
theorem dot1_v {w:World}{a1 a2 a3 a4 b1 b2 b3 b4:Value}{r s t:Rat}{k l m tot:Nat}{E:E4}(hT:Row w tot [E])(qT:Qc w E.a E.b E.c E.d t)(hA:Qi w a1 a2 a3 a4 r k)(hB:Qi w b1 b2 b3 b4 s l)(mT:Qm m t)(hk:0<k)(hl:0<l)(hkl:k+l+1<=10000)(hm:m+(k+l)+1<=10000) :
  Calls Tryz.prog 88 #[.agg #[a1,a2,a3,a4],.agg #[b1,b2,b3,b4],.pointer (some ⟨tot,0,none⟩)] w (DotR w tot (t+r*s)):=by
 by_cases h0:r=0∨s=0
 .exact dot1_z (m:=m) hT qT hA hB h0
 .exact dot1_n hT qT hA hB h0 mT hk hl hkl hm
theorem lexF_cases (f:Nat->Int):∀(n k:Nat),(lexF f k n=0/\∀i,k<=i->i<k+n->f i=0)∨∃m,k<=m/\m<k+n/\f m≠0/\lexF f k n=f m/\∀j,k<=j->j<m->f j=0
 | 0,k=>.inl ⟨rfl,fun i h1 h2=>by omega⟩
 | n+1,k=>by
  by_cases h:f k=0
  .have e:lexF f k (n+1)=lexF f (k+1) n:=by rw[lexF,if_pos h]
   rw[e]
   rcases lexF_cases f n (k+1) with ⟨h1,h2⟩|⟨m,h1,h2,h3,h4,h5⟩
   .refine .inl ⟨h1,fun i h3 h4=>?_⟩
    by_cases hik:i=k
    .rw[hik];exact h
    .exact h2 i (by omega) (by omega)
   .refine .inr ⟨m,by omega,by omega,h3,h4,fun j h6 h7=>?_⟩
    by_cases hjk:j=k
    .rw[hjk];exact h
    .exact h5 j (by omega) h7
  .exact .inr ⟨k,Nat.le_refl _,by omega,h,by rw[lexF,if_neg h],fun j h1 h2=>by omega⟩
theorem lex_zero {a b:List Rat} : lexQ a b=0↔∀i,a.getD i 0=b.getD i 0:=by
 constructor
 .intro h i
  rcases lexF_cases (fun i=>cmpQ (a.getD i 0) (b.getD i 0)) (max a.length b.length) 0 with ⟨_,h2⟩|⟨m,h1,h2,h3,h4,h5⟩
  .by_cases hi:i<max a.length b.length
   .exact cmpQ_zero.1 (h2 i (Nat.zero_le _) (by omega))
   .rw[getD_ge (by omega),getD_ge (by omega)]
  .exact absurd (h4.symm.trans h) h3
 .intro h
  exact lexF_zero _ _ _ fun j _ _=>cmpQ_zero.2 (h j)
def scaleQ (t:Rat)(rs:List Rat):List Rat:=ptw (fun r s=>t*r+s) rs []
structure Vm (k:Nat)(rs:List Rat):Prop where
 qm:∀i,Qm k (rs.getD i 0)
 len:rs.length<=20
theorem Vm.l {k:Nat}{rs:List Rat}(h:Vm k rs):rs.length<=4398046511104:=Nat.le_trans h.len (by decide)
theorem Vm.nil : Vm 1 []:=⟨fun i=>⟨Nat.pow_pos (by decide),Sm.one (by decide)⟩,by decide⟩
theorem Vm.add {k l:Nat}{rs ss:List Rat}(h:Vm k rs)(h':Vm l ss):Vm (k+l+1) (ptw (fun r s=>r+s) rs ss) :=
 ⟨fun i=>by rw[ptw_getD (by decide +kernel)];exact (h.qm i).add (h'.qm i),by have:=h.len;have:=h'.len;rw[ptw_length];omega⟩
theorem Vm.sub {k l:Nat}{rs ss:List Rat}(h:Vm k rs)(h':Vm l ss):Vm (k+l+1) (ptw (fun r s=>r-s) rs ss) :=
 ⟨fun i=>by rw[ptw_getD (by decide +kernel)];exact (h.qm i).sub (h'.qm i),by have:=h.len;have:=h'.len;rw[ptw_length];omega⟩
theorem zero_flat (m:Nat):Builtin.zeroCells (.agg #[.bool false,.slice none 0 0,.bool false,.slice none 0 0]:Value).cells m=(flat (List.replicate m E4.z)).toArray:=by
 rw[flat_zero]
 rfl
def TotV (W:World)(v:Value)(n:Nat)(f:Nat->Rat)(B:Nat):Prop :=
 (n=0/\v=.slice none 0 0)∨∃g cap fl,v=.slice (some ⟨g,0,none⟩) n cap/\B<=g/\Row W g fl/\fl.length=cap/\n<=cap/\cap<=9223372036854775807 /\
  (∀i,i<n->Qc W (fl.getD i E4.z).a (fl.getD i E4.z).b (fl.getD i E4.z).c (fl.getD i E4.z).d (f i))/\∀i,n<=i->fl.getD i E4.z=E4.z
theorem TotV.to {W V:World}{v:Value}{n:Nat}{f:Nat->Rat}{B:Nat}(h:TotV W v n f B)(hb:Below W.heap.size W V):TotV V v n f B:=by
 rcases h with h|⟨g,cap,fl,h1,h2,h3,h4,h5,h6,h7,h8⟩
 .exact .inl h
 .exact .inr ⟨g,cap,fl,h1,h2,h3.to hb,h4,h5,h6,fun i hi=>(h7 i hi).to hb,h8⟩
theorem TotV.congr {W:World}{v:Value}{n:Nat}{f f':Nat->Rat}{B:Nat}(h:TotV W v n f B)(hf:∀i,i<n->f i=f' i):TotV W v n f' B:=by
 rcases h with h|⟨g,cap,fl,h1,h2,h3,h4,h5,h6,h7,h8⟩
 .exact .inl h
 .exact .inr ⟨g,cap,fl,h1,h2,h3,h4,h5,h6,fun i hi=>by rw[<-hf i hi];exact h7 i hi,h8⟩
theorem qc_z (W:World):Qc W E4.z.a E4.z.b E4.z.c E4.z.d 0:=⟨Zc.zero _,Zc.zero _⟩
def TotP (P:World->Nat->E4->Prop)(W:World)(v:Value)(n:Nat)(B:Nat):Prop :=
 (n=0/\v=.slice none 0 0)∨∃g cap fl,v=.slice (some ⟨g,0,none⟩) n cap/\B<=g/\Row W g fl/\fl.length=cap/\n<=cap/\cap<=9223372036854775807 /\
  (∀i,i<n->P W i (fl.getD i E4.z))/\∀i,n<=i->fl.getD i E4.z=E4.z
theorem tot_rowp {P:World->Nat->E4->Prop}{W:World}{g B n:Nat}{fl:List E4}(hg:B<=g)(h:Row W g fl)(hn:n<=fl.length)(hc:fl.length<=9223372036854775807)
  (hq:∀i,i<n->P W i (fl.getD i E4.z)) (hz:∀i,n<=i->fl.getD i E4.z=E4.z):TotP P W (.slice (some ⟨g,0,none⟩) n fl.length) n B :=
 .inr ⟨g,fl.length,fl,rfl,hg,h,rfl,hn,hc,hq,hz⟩
theorem grown_row {W:World}{n C:Nat}{es:List E4}{e:E4}(he:e.fq)(hes:∀x∈es,x.fq)(hl:es.length=n)(hC:n+1<=C) :
  (flat (es++e::List.replicate (C-(n+1)) E4.z)).toArray=((flat es++[e.a,e.b,e.c,e.d]).toArray++Builtin.zeroCells (.agg #[.bool false,.slice none 0 0,.bool false,.slice none 0 0]:Value).cells (C-(n+1))) /\
  Row (W.alloc (.cells (flat (es++e::List.replicate (C-(n+1)) E4.z)).toArray 32)) W.heap.size (es++e::List.replicate (C-(n+1)) E4.z)/\(es++e::List.replicate (C-(n+1)) E4.z).length=C:=by
 refine ⟨?_,⟨World.alloc_heap_new W _,fun x hx=>?_⟩,by simp;omega⟩
 .rw[zero_flat,flat_app]
  apply Array.ext'
  simp[flat]
 .rcases List.mem_append.1 hx with hx|hx
  .exact hes x hx
  .rcases List.mem_cons.1 hx with rfl|hx
   .exact he
   .rw[List.eq_of_mem_replicate hx];exact E4.z_fq
theorem papp {P:World->Nat->E4->Prop}(hP:∀{W V:World} {i:Nat} {e:E4},Kw W V->P W i e->P V i e){W:World}{v:Value}{n:Nat}{B:Nat}(h:TotP P W v n B)(hB:B<=W.heap.size)(hl:n+1<=1000000){e:E4}(he:e.fq)(hq:P W n e){a:Addr}{c:Nat}
  (h0:W.cell? (a.add 0)=some e.a) (h1:W.cell? (a.add 1)=some e.b) (h2:W.cell? (a.add 2)=some e.c) (h3:W.cell? (a.add 3)=some e.d) (ty:TypeId) :
  ∃v' W',(Builtin.append_ #[38,38] ty #[v,.slice (some a) 1 c]).run Tryz.prog W=.ok v' W'/\TotP P W' v' (n+1) B/\Below B W W':=by
 obtain ⟨i0,hi,hz0,hz1,hz2⟩:=info_parts infoQ
 have hnews:∀j u,[e.a,e.b,e.c,e.d][j]?=some u->W.cell? (a.add j)=some u:=fun j u hj=>by
  match j,hj with
  | 0,hj=>simp at hj;subst hj;exact h0
  | 1,hj=>simp at hj;subst hj;exact h1
  | 2,hj=>simp at hj;subst hj;exact h2
  | 3,hj=>simp at hj;subst hj;exact h3
 have last:∀(es:List E4) (k:Nat),es.length=n->∀i,n+1<=i->(es++e::List.replicate k E4.z).getD i E4.z=E4.z:=fun es k hes i hi=>by
  rw[show es++e::List.replicate k E4.z=(es++[e])++List.replicate k E4.z from by simp]
  simp only[List.getD,List.getElem?_append,List.length_append,List.length_cons,List.length_nil,hes,Nat.zero_add,show ¬i<n+1 by omega,if_false,List.getElem?_replicate]
  split<;>rfl
 have here:∀(es:List E4) (k:Nat),es.length=n->(es++e::List.replicate k E4.z).getD n E4.z=e:=fun es k hes=>by
  simp[List.getD,List.getElem?_append,hes]
 rcases h with ⟨rfl,rfl⟩|⟨g,cap,fl,rfl,hg,hr,rfl,hn,hc,hqs,hz⟩
 .have hrun:=run_append_nil (P:=Tryz.prog) (w:=W) 38 ty 32 i0 _ Tryz.underlying38 hi hz0 a 1 c [e.a,e.b,e.c,e.d] (by rw[hz1];rfl) hnews (by decide) (by decide) (by rw[hz2];decide)
  have hge:=grownCap_ge W 1 0 32
  have hle:=grownCap_le_maxLen W 1 0 32 (by unfold maxLen;omega)
  unfold maxLen at hle
  obtain ⟨C,hC⟩:∃C,grownCap W 1 0 32=C:=⟨_,rfl⟩
  rw[hC]at hrun hge hle
  obtain ⟨g1,g2,g3⟩:=grown_row (W:=W.drew) (n:=0) (C:=C) (es:=[]) he (fun x hx=>by cases hx) rfl hge
  have hrun':(Builtin.append_ #[38,38] ty #[.slice none 0 0,.slice (some a) 1 c]).run Tryz.prog W=.ok (.slice (some ⟨W.heap.size,0,none⟩) 1 C) (W.drew.alloc (.cells (flat ([]++e::List.replicate (C-(0+1)) E4.z)).toArray 32)):=by
   rw[g1]
   exact hrun
  have hbb:Below W.heap.size W (W.drew.alloc (.cells (flat ([]++e::List.replicate (C-(0+1)) E4.z)).toArray 32)):=((Below.refl _ W).drew).alloc (Nat.le_refl _) _
  refine ⟨_,_,hrun',?_,hbb.mono hB⟩
  have ht:=tot_rowp (P:=P) (n:=1) (B:=B) (g:=W.heap.size) hB g2 (by rw[g3];exact hge) (by rw[g3];omega) (fun i hi=>by
   obtain rfl:i=0:=by omega
   rw[here [] _ rfl]
   exact hP (Kw.of hbb) hq) (fun i hi=>last [] _ rfl i hi)
  rw[g3]at ht
  exact ht
 .by_cases hroom:n<fl.length
  .refine ⟨_,_,append_q hr hroom he h0 h1 h2 h3 (c:=c) ty,?_,below_setRow (Below.refl _ _) hg _⟩
   have kw:Kw W (W.setRow g (flat (fl.set n e)).toArray):=hr.kw
   have ht:=tot_rowp (P:=P) (n:=n+1) (B:=B) hg (hr.app (n:=n) he) (by rw[List.length_set];omega) (by rw[List.length_set];exact hc) (fun i hi=>by
    by_cases hin:i=n
    .subst hin
     rw[show (fl.set i e).getD i E4.z=e from by simp[List.getD,hroom]]
     exact hP kw hq
    .rw[show (fl.set n e).getD i E4.z=fl.getD i E4.z from by simp[List.getD,List.getElem?_set,Ne.symm hin]]
     exact hP kw (hqs i (by omega))) (fun i hi=>by
    rw[show (fl.set n e).getD i E4.z=fl.getD i E4.z from by simp[List.getD,List.getElem?_set,show n≠i by omega]]
    exact hz i (by omega))
   rwa [List.length_set]at ht
  .obtain rfl:n=fl.length:=by omega
   have holds:∀j u,(flat fl)[j]?=some u->W.cell? ((⟨g,0,none⟩:Addr).add j)=some u:=fun j u hj=>by
    unfold Addr.add
    by_cases hj0:j=0
    .subst hj0;simpa [World.cell?,hr.heap]using hj
    .simpa [hj0,World.cell?,hr.heap]using hj
   have hrun:=run_append_grow (P:=Tryz.prog) (w:=W) 38 ty 32 i0 _ Tryz.underlying38 hi hz0 ⟨g,0,none⟩ fl.length fl.length (flat fl) (by rw[hz1,flat_length]) holds a 1 c [e.a,e.b,e.c,e.d] (by rw[hz1];rfl) hnews (by omega) (by omega)
    (by rw[hz2];exact growslice_fits (by omega) (by omega))
   have hge:=grownCap_ge W (fl.length+1) fl.length 32
   have hle:=grownCap_le_maxLen W (fl.length+1) fl.length 32 (by unfold maxLen;omega)
   unfold maxLen at hle
   obtain ⟨C,hC⟩:∃C,grownCap W (fl.length+1) fl.length 32=C:=⟨_,rfl⟩
   rw[hC]at hrun hge hle
   obtain ⟨g1,g2,g3⟩:=grown_row (W:=W.drew) (n:=fl.length) (C:=C) (es:=fl) he hr.fq rfl hge
   have hrun':(Builtin.append_ #[38,38] ty #[.slice (some ⟨g,0,none⟩) fl.length fl.length,.slice (some a) 1 c]).run Tryz.prog W=.ok (.slice (some ⟨W.heap.size,0,none⟩) (fl.length+1) C) (W.drew.alloc (.cells (flat (fl++e::List.replicate (C-(fl.length+1)) E4.z)).toArray 32)):=by
    rw[g1,show (flat fl++[e.a,e.b,e.c,e.d]).toArray=(flat fl).toArray++[e.a,e.b,e.c,e.d].toArray from by simp]
    exact hrun
   have hbb:Below W.heap.size W (W.drew.alloc (.cells (flat (fl++e::List.replicate (C-(fl.length+1)) E4.z)).toArray 32)):=((Below.refl _ W).drew).alloc (Nat.le_refl _) _
   refine ⟨_,_,hrun',?_,hbb.mono hB⟩
   have ht:=tot_rowp (P:=P) (n:=fl.length+1) (B:=B) (g:=W.heap.size) hB g2 (by rw[g3];exact hge) (by rw[g3];omega) (fun i hi=>by
    by_cases hin:i=fl.length
    .subst hin
     rw[here fl _ rfl]
     exact hP (Kw.of hbb) hq
    .rw[show (fl++e::List.replicate (C-(fl.length+1)) E4.z).getD i E4.z=fl.getD i E4.z from by simp[List.getD,List.getElem?_append,show i<fl.length by omega]]
     exact hP (Kw.of hbb) (hqs i (by omega))) (fun i hi=>last fl _ rfl i hi)
   rw[g3]at ht
   exact ht
theorem TotP.mv {P:World->Nat->E4->Prop}(hP:∀{W V:World} {i:Nat} {e:E4},Kw W V->P W i e->P V i e){W V:World}{v:Value}{n B:Nat}(h:TotP P W v n B)(hb:Below W.heap.size W V):TotP P V v n B:=by
 rcases h with h|⟨g,cap,fl,h1,h2,h3,h4,h5,h6,h7,h8⟩
 .exact .inl h
 .exact .inr ⟨g,cap,fl,h1,h2,h3.to hb,h4,h5,h6,fun i hi=>hP (Kw.of hb) (h7 i hi),h8⟩
theorem TotP.sl {P:World->Nat->E4->Prop}{W:World}{v:Value}{n B:Nat}(h:TotP P W v n B):∃A c,v=.slice A n c:=by
 rcases h with ⟨rfl,rfl⟩|⟨g,cap,fl,rfl,_⟩
 .exact ⟨_,_,rfl⟩
 .exact ⟨_,_,rfl⟩
theorem qapp {W:World}{v:Value}{n:Nat}{f:Nat->Rat}{B:Nat}(h:TotV W v n f B)(hB:B<=W.heap.size)(hl:n+1<=1000000){e:E4}(he:e.fq)(hq:Qc W e.a e.b e.c e.d (f n)){a:Addr}{c:Nat}
  (h0:W.cell? (a.add 0)=some e.a) (h1:W.cell? (a.add 1)=some e.b) (h2:W.cell? (a.add 2)=some e.c) (h3:W.cell? (a.add 3)=some e.d) (ty:TypeId) :
  ∃v' W',(Builtin.append_ #[38,38] ty #[v,.slice (some a) 1 c]).run Tryz.prog W=.ok v' W'/\TotV W' v' (n+1) f B/\Below B W W' :=
 papp (P:=fun W i e=>Qc W e.a e.b e.c e.d (f i)) (fun k h=>k.qc h) h hB hl he hq h0 h1 h2 h3 ty
attribute [local go_sem] Oper.semAt_some
def sumF (f:Nat->Rat):Nat->Rat
 | 0=>0
 | k+1=>sumF f k+f k
theorem Qm.zero {k:Nat}(hk:0<k):Qm k 0:=⟨Nat.pow_pos (by decide),Sm.one hk⟩
theorem Qm.sumF {f:Nat->Rat}{P:Nat}(hf:∀i,Qm P (f i)):∀k,Qm (k*(P+1)+1) (sumF f k)
 | 0=>Qm.zero (by omega)
 | k+1=>by
  have h:=(Qm.sumF hf k).add (hf k)
  exact h.mono (by rw[Nat.add_mul];omega)
def TotI (W:World)(g:Nat)(t:Rat):Prop:=∃E,Row W g [E]/\Qc W E.a E.b E.c E.d t
theorem TotI.to {W V:World}{g:Nat}{t:Rat}(h:TotI W g t)(hb:Below W.heap.size W V):TotI V g t:=by
 obtain ⟨E,h1,h2⟩:=h
 exact ⟨E,h1.to hb,h2.to hb⟩
theorem TotI.grown {W V:World}{g:Nat}{t:Rat}{row:Option Nat}(h:TotI W g t)(hg:W.grownBy V row)(hr:∀r,row=some r->∃o:Obj,W.heap[r]?=some o/\o.isCells=false):TotI V g t:=by
 obtain ⟨E,h1,h2⟩:=h
 exact ⟨E,h1.grown hg hr,(Kw.grown hg hr).qc h2⟩
theorem dot_f {f:Nat->Rat}{A A':Option Addr}{c c':Nat}{es fs:List E4}{w:World}(hx:Rq w w.heap.size A es)(hy:Rq w w.heap.size A' fs)(qx:∀e∈es,e.fq)(qy:∀e∈fs,e.fq)
  (hx63:es.length<=4398046511104) (hy63:fs.length<=4398046511104)
  (hF:∀(V:World) (E:E4),Below w.heap.size w V->Row V (w.heap.size+1) [E]->∀i,i<max es.length fs.length->Qc V E.a E.b E.c E.d (sumF f i)->Calls Tryz.prog 88 #[(es.getD i E4.z).v,(fs.getD i E4.z).v,.pointer (some ⟨w.heap.size+1,0,none⟩)] V (DotR V (w.heap.size+1) (sumF f (i+1)))) :
  Calls Tryz.prog 46 #[.slice A es.length c,.slice A' fs.length c'] w (QR w (sumF f (max es.length fs.length))):=by
 have HF:=Hd hF
 have HX63:=Hd hx63
 have HY63:=Hd hy63
 have RX:=Hd hx
 have RY:=Hd hy
 have QX:=Hd qx
 have QY:=Hd qy
 clear hF hx hy qx qy
 refine (callsIn_wide (n:=3)).1 ?_
 refine callsIn_of_wp_marks Tryz.func46 rfl trivial ?_ rfl
 simp only[Tryz.ntmps46,List.size_toArray,List.length_cons,List.length_nil,Nat.reduceAdd,Nat.reduceSub,Array.replicate_succ,Array.replicate_zero,List.push_toArray,List.append_toArray,List.nil_append,List.cons_append]
 gi_wp2_with (first
  | (refine ⟨trivial,?_⟩;gi_at_call 92;refine (callsIn_wide.2 (vpairs_any _ _ _ _ _ _ _)).mono ?_;rintro e w' ⟨rfl,rfl⟩))
 obtain ⟨W0,hW0⟩:∃W0,W0=((((w.alloc (.cells #[.bool false,.slice none 0 0,.bool false,.slice none 0 0] 32)).alloc (.cells #[.bool false,.slice none 0 0,.bool false,.slice none 0 0] 32)).alloc (.cells #[.func (.func 88) #[] #[.pointer (some ⟨w.heap.size+1,0,none⟩)]] 85)).alloc (.cells #[.slice A es.length c] 38)).alloc (.cells #[.slice A' fs.length c'] 38):=⟨_,rfl⟩
 have hb0:Below w.heap.size w W0:=by rw[hW0];exact (((((Below.refl _ _).alloc (Nat.le_refl _) _).alloc (by simp) _).alloc (by simp;omega) _).alloc (by simp;omega) _).alloc (by simp;omega) _
 have hR0:Hp W0 (w.heap.size) (.cells #[.bool false,.slice none 0 0,.bool false,.slice none 0 0] 32 (0,0)):=by
  have h:=Hp.new w #[.bool false,.slice none 0 0,.bool false,.slice none 0 0] 32
  rw[hW0];exact ((((h.alloc _).alloc _).alloc _).alloc _)
 have hT0:Hp W0 (w.heap.size+1) (.cells #[.bool false,.slice none 0 0,.bool false,.slice none 0 0] 32 (0,0)):=by
  have h:=Hp.new (w.alloc (.cells #[.bool false,.slice none 0 0,.bool false,.slice none 0 0] 32)) #[.bool false,.slice none 0 0,.bool false,.slice none 0 0] 32
  rw[World.size_alloc]at h
  rw[hW0];exact (((h.alloc _).alloc _).alloc _)
 have hC0:Hp W0 (w.heap.size+1+1) (.cells #[.func (.func 88) #[] #[.pointer (some ⟨w.heap.size+1,0,none⟩)]] 85 (0,0)):=by
  have h:=Hp.new ((w.alloc (.cells #[.bool false,.slice none 0 0,.bool false,.slice none 0 0] 32)).alloc (.cells #[.bool false,.slice none 0 0,.bool false,.slice none 0 0] 32)) #[.func (.func 88) #[] #[.pointer (some ⟨w.heap.size+1,0,none⟩)]] 85
  rw[World.size_alloc,World.size_alloc]at h
  rw[hW0];exact ((h.alloc _).alloc _)
 have hx0:Hp W0 (w.heap.size+1+1+1) (.cells #[.slice A es.length c] 38 (0,0)):=by
  have h:=Hp.new (((w.alloc (.cells #[.bool false,.slice none 0 0,.bool false,.slice none 0 0] 32)).alloc (.cells #[.bool false,.slice none 0 0,.bool false,.slice none 0 0] 32)).alloc (.cells #[.func (.func 88) #[] #[.pointer (some ⟨w.heap.size+1,0,none⟩)]] 85)) #[.slice A es.length c] 38
  rw[World.size_alloc,World.size_alloc,World.size_alloc]at h
  rw[hW0];exact (h.alloc _)
 have hy0:Hp W0 (w.heap.size+1+1+1+1) (.cells #[.slice A' fs.length c'] 38 (0,0)):=by
  have h:=Hp.new ((((w.alloc (.cells #[.bool false,.slice none 0 0,.bool false,.slice none 0 0] 32)).alloc (.cells #[.bool false,.slice none 0 0,.bool false,.slice none 0 0] 32)).alloc (.cells #[.func (.func 88) #[] #[.pointer (some ⟨w.heap.size+1,0,none⟩)]] 85)).alloc (.cells #[.slice A es.length c] 38)) #[.slice A' fs.length c'] 38
  rw[World.size_alloc,World.size_alloc,World.size_alloc,World.size_alloc]at h
  rw[hW0];exact h
 have hP0:PairI w (w.heap.size+1+1+1) (.slice A es.length c) (.slice A' fs.length c') W0:=⟨hx0,hy0,hb0⟩
 have hT0:TotI W0 (w.heap.size+1) (sumF f 0):=⟨E4.z,Row.one hT0 Fq.nil,Zc.zero _,Zc.zero _⟩
 have hs0:W0.heap.size=w.heap.size+1+1+1+1+1:=by rw[hW0];simp
 rw[<-hW0]
 clear hW0 hx0 hy0
 refine wp_roundsB (gf:=115) (lb:=#[.pointer (some ⟨w.heap.size+1+1+1,0,none⟩),.pointer (some ⟨w.heap.size+1+1+1+1,0,none⟩)]) ?hg (enters_of Tryz.func115 (by kernel_rfl) rfl)
  (N:=max es.length fs.length) (enc:=vpairE es fs) (S:=pairS (w.heap.size+1+1+1) (w.heap.size+1+1+1+1) w.heap.size) (pairS_lt (by omega) (by omega) (by omega))
  (fun W hW=>by
   have h:=hP0.to hW
   exact vpairs_gives (w.heap.size+1+1+1) (w.heap.size+1+1+1+1) w.heap.size c c' A A' es fs (by have:=HX63.out;omega) (by have:=HY63.out;omega) W h.bx.one h.by'.one (RX.out.below h.bel) (RY.out.below h.bel) QX.out QY.out)
  ?hps
  (fun k W=>Hp W w.heap.size (.cells #[.bool false,.slice none 0 0,.bool false,.slice none 0 0] 32 (0,0))/\TotI W (w.heap.size+1) (sumF f k)/\Hp W (w.heap.size+1+1) (.cells #[.func (.func 88) #[] #[.pointer (some ⟨w.heap.size+1,0,none⟩)]] 85 (0,0))/\PairI w (w.heap.size+1+1+1) (.slice A es.length c) (.slice A' fs.length c') W)
  (fun k a1 W=>∃p q,a1=⟨#[.slice A es.length c,.slice A' fs.length c',undef,undef,.pointer (some ⟨w.heap.size,0,none⟩),.pointer (some ⟨w.heap.size+1,0,none⟩),.pointer (some ⟨w.heap.size+1+1,0,none⟩),.pointer (some ⟨p,0,none⟩),.pointer (some ⟨q,0,none⟩),.func (.func 88) #[] #[.pointer (some ⟨w.heap.size+1,0,none⟩)],.slice A es.length c,.slice A' fs.length c',.func (.func 115) #[] #[.pointer (some ⟨w.heap.size+1+1+1,0,none⟩),.pointer (some ⟨w.heap.size+1+1+1+1,0,none⟩)],(es.getD k E4.z).v,(fs.getD k E4.z).v,undef,undef,undef,undef,undef],[]⟩/\(Hp W w.heap.size (.cells #[.bool false,.slice none 0 0,.bool false,.slice none 0 0] 32 (0,0))/\TotI W (w.heap.size+1) (sumF f k)/\Hp W (w.heap.size+1+1) (.cells #[.func (.func 88) #[] #[.pointer (some ⟨w.heap.size+1,0,none⟩)]] 85 (0,0))/\PairI w (w.heap.size+1+1+1) (.slice A es.length c) (.slice A' fs.length c') W)/\EHp W p (es.getD k E4.z)/\EHp W q (fs.getD k E4.z))
  (fun _ _ _=>False) ?hI ?hI1 ?hIb ?hIx ⟨hR0,hT0,hC0,hP0⟩ ?assign ?body ?done ?stop
 case hg=>rfl
 case hps=>exact fun _=>rfl
 case hI=>exact fun k W V row h hg hr=>⟨h.1.grown hg (fun r e=>(hr r e).2) rfl,h.2.1.grown hg (fun r e=>(hr r e).2),h.2.2.1.grown hg (fun r e=>(hr r e).2) rfl,h.2.2.2.grown (by omega) hg hr⟩
 case hI1 =>
  rintro ⟨k,a1⟩ W V row ⟨p,q,h1,h2,h3,h4⟩ hg hr
  exact ⟨p,q,h1,⟨h2.1.grown hg (fun r e=>(hr r e).2) rfl,h2.2.1.grown hg (fun r e=>(hr r e).2),h2.2.2.1.grown hg (fun r e=>(hr r e).2) rfl,h2.2.2.2.grown (by omega) hg hr⟩,Hp.grown h3 hg (fun r e=>(hr r e).2) rfl,Hp.grown h4 hg (fun r e=>(hr r e).2) rfl⟩
 case hIb=>exact fun k W V h hb=>⟨h.1.to hb,h.2.1.to hb,h.2.2.1.to hb,h.2.2.2.to hb⟩
 case hIx=>exact fun _ _ _ _ _ h _ _=>h
 case assign =>
  intro l k W K hlt hI hk hK
  have fx:=fq_getD QX.out k
  have fy:=fq_getD QY.out k
  have HK:=Hd hK
  clear hK
  unfold vpairE
  generalize es.getD k E4.z=X at HK fx ⊢
  generalize fs.getD k E4.z=Y at HK fy ⊢
  obtain ⟨x1,x2,x3,x4⟩:=X
  obtain ⟨y1,y2,y3,y4⟩:=Y
  obtain ⟨⟨n1,A1,j1,m1,e1,e2⟩,⟨n2,A2,j2,m2,e3,e4⟩⟩:=fx
  obtain ⟨⟨n3,A3,j3,m3,e5,e6⟩,⟨n4,A4,j4,m4,e7,e8⟩⟩:=fy
  dsimp only at e1 e2 e3 e4 e5 e6 e7 e8
  subst e1 e2 e3 e4 e5 e6 e7 e8
  simp only[E4.v]
  simp only[E4.v]at HK
  gi_wp2
  have hbb:Below W.heap.size W ((W.alloc (.cells #[.bool n1,.slice A1 j1 m1,.bool n2,.slice A2 j2 m2] 32)).alloc (.cells #[.bool n3,.slice A3 j3 m3,.bool n4,.slice A4 j4 m4] 32)):=((Below.refl _ _).alloc (Nat.le_refl _) _).alloc (by simp) _
  refine HK.out _ _ hbb ⟨_,_,rfl,⟨hI.1.to hbb,hI.2.1.to hbb,hI.2.2.1.to hbb,hI.2.2.2.to hbb⟩,(Hp.new _ _ _).alloc _,?_⟩
  have h:=Hp.new (W.alloc (.cells #[.bool n1,.slice A1 j1 m1,.bool n2,.slice A2 j2 m2] 32)) #[.bool n3,.slice A3 j3 m3,.bool n4,.slice A4 j4 m4] 32
  rw[World.size_alloc]at h
  exact h
 case body =>
  rintro l k a1 W hlt ⟨p,q,rfl,⟨hR,hT,hC,hP⟩,hp,hq⟩ hk
  have hbW:=hP.bel
  have HFK0:=Hd fun (V:World) (hV:Below w.heap.size w V) (E:E4) (hE:Row V (w.heap.size+1) [E]) (qE:Qc V E.a E.b E.c E.d (sumF f k))=>HF.out V E hV hE k hk qE
  obtain ⟨E,hE,qE⟩:=hT
  have HFK:=Hd (HFK0.out W hbW E hE qE)
  clear HFK0
  obtain ⟨X,hX⟩:∃X,es.getD k E4.z=X:=⟨_,rfl⟩
  obtain ⟨Y,hY⟩:∃Y,fs.getD k E4.z=Y:=⟨_,rfl⟩
  rw[hX]at hp HFK ⊢
  rw[hY]at hq HFK ⊢
  clear hX hY
  obtain ⟨x1,x2,x3,x4⟩:=X
  obtain ⟨y1,y2,y3,y4⟩:=Y
  simp only[E4.v]at HFK ⊢
  have c0:=(Hp.four hp).c0
  have c1:=(Hp.four hp).c1
  have c2:=(Hp.four hp).c2
  have c3:=(Hp.four hp).c3
  have d0:=(Hp.four hq).c0
  have d1:=(Hp.four hq).c1
  have d2:=(Hp.four hq).c2
  have d3:=(Hp.four hq).c3
  dsimp only at c0 c1 c2 c3 d0 d1 d2 d3
  have HR:=Hd hR
  have HC:=Hd hC
  have HP:=Hd hP
  have cC:=hC.one
  have HS:Hid (w.heap.size+1+1+1+1+1<W.heap.size):=by show _<_;omega
  clear hp hq hR hC hP HF hP0 hR0 hT0 hC0 RX RY QX QY hk hE qE
  gi_wp2_with (refine ⟨trivial,?_⟩;gi_at_call 88;refine (CallsIn.inRound l (callsIn_wide.2 HFK.out)).mono ?_;rintro e V ⟨⟨v,rfl⟩,E2,hE2,qE2,hsz,hoth,hbel⟩)
  have hS:=HS.out
  refine ⟨⟨hsz,fun j o hB hj _=>(hoth j (Array.getElem?_eq_some_iff.1 hj).1 (by omega)).trans hj⟩,KeepAt.of fun p hp=>hoth _ ?_ ?_,?_,⟨E2,hE2,qE2⟩,?_,?_,?_,?_⟩
  .exact pairS_lt (S:=W.heap.size) (by omega) (by omega) (by omega) p hp
  .rcases hp with rfl|rfl|hp
   .show w.heap.size+1+1+1≠w.heap.size+1;omega
   .show w.heap.size+1+1+1+1≠w.heap.size+1;omega
   .omega
  .exact (hoth _ (by omega) (by omega)).trans HR.out
  .exact (hoth _ (by omega) (by omega)).trans HC.out
  .exact (hoth _ (by omega) (by omega)).trans HP.out.bx
  .exact (hoth _ (by omega) (by omega)).trans HP.out.by'
  .exact HP.out.bel.trans (hbel _ (by omega))
 case done =>
  rintro W ⟨hR,⟨E,hE,qE⟩,hC,hP⟩ hK
  rw[hs0]at hK
  have r1:=Row.one hR Fq.nil
  have hf:E.fq:=hE.fq E (by simp)
  have hne:(w.heap.size+1+1+1+1+1)≠w.heap.size:=by omega
  have h4:=hE.four
  obtain ⟨e1,e2,e3,e4⟩:=E
  have c0:=h4.c0
  have c1:=h4.c1
  have c2:=h4.c2
  have c3:=h4.c3
  dsimp only at c0 c1 c2 c3
  have R1:=Hd r1
  have QF:=Hd hf
  have hK':=(setRow_other W w.heap.size _ (flat ([⟨e1,e2,e3,e4⟩]:List E4)).toArray hne).trans hK
  have h5:Row (W.setRow w.heap.size (flat ([⟨e1,e2,e3,e4⟩]:List E4)).toArray) w.heap.size [⟨e1,e2,e3,e4⟩]:=r1.app (n:=0) (e:=⟨e1,e2,e3,e4⟩) hf
  have kw:Kw W (W.setRow w.heap.size (flat ([⟨e1,e2,e3,e4⟩]:List E4)).toArray):=r1.kw
  have hgp:=grownBy_putObj' (W.setRow w.heap.size (flat ([⟨e1,e2,e3,e4⟩]:List E4)).toArray) (w.heap.size+1+1+1+1+1) (.deferred none)
  have hgr:∀r,some (w.heap.size+1+1+1+1+1)=some r->∃o:Obj,(W.setRow w.heap.size (flat ([⟨e1,e2,e3,e4⟩]:List E4)).toArray).heap[r]?=some o/\o.isCells=false:=fun r e=>by cases e;exact ⟨_,hK',rfl⟩
  have H6:=Hd (h5.grown hgp hgr).four
  have HE:Hid (QR w (sumF f (max es.length fs.length)) (.returned (.agg #[e1,e2,e3,e4])) ((W.setRow w.heap.size (flat ([⟨e1,e2,e3,e4⟩]:List E4)).toArray).putObj (w.heap.size+1+1+1+1+1) (.deferred none))) :=
   ⟨e1,e2,e3,e4,rfl,(Kw.grown hgp hgr).qc (kw.qc qE),(below_setRow hP.bel (Nat.le_refl _) _).grown hgp (by rw[setRow_size];exact hP.bel.size) (fun k e=>by cases e;omega)⟩
  have HK':=Hd hK'
  clear hE hC hP hb0 hP0 hR0 hT0 hC0 qE h4 hK hgp hgr kw h5 hR r1 hK' hf
  gi_wp2_with (refine wpListIn_storeq (k:=0) (e:=⟨e1,e2,e3,e4⟩) rfl (.tmp 4) (.tmp 19) rfl (by rfl) (by rfl) R1.out (by simp) QF.out ?_;clear R1)
  refine ⟨by simp,.inl ⟨_,_,rfl,run_takeDeferred HK'.out,?_⟩⟩
  refine ⟨.agg #[e1,e2,e3,e4],?_,HE.out⟩
  have u0:=H6.out.c0
  have u1:=H6.out.c1
  have u2:=H6.out.c2
  have u3:=H6.out.c3
  simp[results,Tryz.f46,go_sem,u0,u1,u2,u3]
 case stop=>exact fun _ _ _ _ h _=>h.elim
def dotQ (rs ss:List Rat):Rat:=sumF (fun i=>rs.getD i 0*ss.getD i 0) (max rs.length ss.length)
theorem vdot_v {w:World}{A A':Option Addr}{c c':Nat}{es fs:List E4}{rs ss:List Rat}{k l:Nat}(hA:Vi w A c es rs k)(hB:Vi w A' c' fs ss l)(hk:0<k)(hl:0<l)(h1:rs.length<=4398046511104)(h2:ss.length<=4398046511104)
  (hN:(max rs.length ss.length)*(k+l+1)+1+(k+l)+1<=10000) :
  Calls Tryz.prog 46 #[.slice A rs.length c,.slice A' ss.length c'] w (QR w (dotQ rs ss)):=by
 have hm:∀i,Qm (k+l) (rs.getD i 0*ss.getD i 0):=fun i=>((hA.el i).qm hk).mul ((hB.el i).qm hl)
 have h:=dot_f (f:=fun i=>rs.getD i 0*ss.getD i 0) (c:=c) (c':=c') hA.row hB.row hA.fq hB.fq (by rw[hA.len];exact h1) (by rw[hB.len];exact h2) (fun V E hV hE i hi qE=>by
  rw[hA.len,hB.len]at hi
  have hi2:i*(k+l+1)<=(max rs.length ss.length)*(k+l+1):=Nat.mul_le_mul_right _ (by omega)
  exact dot1_v hE qE ((hA.el i).to hV) ((hB.el i).to hV) (Qm.sumF hm i) hk hl (by omega) (by omega))
 rw[hA.len,hB.len]at h
 exact h
end Go.Proofs.YtglhdielkkhefaaGreat

namespace Go.Proofs.YtglhdielkkhefaaGreat
open Go.RowKit Go.Shelf
theorem Vi.qm {W:World}{A:Option Addr}{c:Nat}{es:List E4}{rs:List Rat}{k:Nat}(h:Vi W A c es rs k)(hk:0<k)(i:Nat):Qm k (rs.getD i 0):=(h.el i).qm hk
def sumV (rs:Nat->List Rat):Nat->List Rat
 | 0=>[]
 | k+1=>ptw (fun r s=>r+s) (sumV rs k) (rs k)
theorem sumV_succ (rs:Nat->List Rat)(k:Nat):sumV rs (k+1)=ptw (fun r s=>r+s) (sumV rs k) (rs k):=rfl
theorem sumV_getD (rs:Nat->List Rat)(i:Nat):∀k,(sumV rs k).getD i 0=sumF (fun j=>(rs j).getD i 0) k
 | 0=>rfl
 | k+1=>by
  rw[sumV_succ,ptw_getD (by decide +kernel),sumV_getD rs i k]
  rfl
theorem sumV_qm {rs:Nat->List Rat}{m:Nat}(h:∀k i,Qm m ((rs k).getD i 0))(k i:Nat):Qm (k*(m+1)+1) ((sumV rs k).getD i 0):=by
 rw[sumV_getD]
 exact Qm.sumF (fun j=>h j i) k
theorem sumV_len {rs:Nat->List Rat}{M:Nat}(h:∀k,(rs k).length<=M):∀k,(sumV rs k).length<=M
 | 0=>Nat.zero_le _
 | k+1=>by
  rw[sumV_succ,ptw_length]
  have:=sumV_len h k
  have:=h k
  omega
structure SumIn (W:World)(P:Option Addr)(N:Nat)(As:Nat->Option Addr)(cs:Nat->Nat)(es:Nat->List E4)(rs:Nat->List Rat)(m:Nat):Prop where
 cell:∀k,k<N->∃b o,P=some ⟨b,o,none⟩/\W.cell? ⟨b,o+k,none⟩=some (.slice (As k) (rs k).length (cs k))
 vec:∀k,k<N->Vi W (As k) (cs k) (es k) (rs k) m
def midF (S a:Nat->Rat)(j:Nat)(i:Nat):Rat:=if i<j then S i+a i else S i
theorem TotV.sl {W:World}{v:Value}{n:Nat}{f:Nat->Rat}{B:Nat}(h:TotV W v n f B):∃A c,v=.slice A n c:=by
 rcases h with ⟨rfl,rfl⟩|⟨g,cap,fl,rfl,_⟩
 .exact ⟨_,_,rfl⟩
 .exact ⟨_,_,rfl⟩
theorem TotV.row {W:World}{A:Option Addr}{n c:Nat}{f:Nat->Rat}{B:Nat}(h:TotV W (.slice A n c) n f B)(hn:n≠0):∃g fl,A=some ⟨g,0,none⟩/\B<=g/\Row W g fl/\fl.length=c/\n<=c/\c<=9223372036854775807 /\
  (∀i,i<n->Qc W (fl.getD i E4.z).a (fl.getD i E4.z).b (fl.getD i E4.z).c (fl.getD i E4.z).d (f i))/\∀i,n<=i->fl.getD i E4.z=E4.z:=by
 rcases h with ⟨h0,_⟩|⟨g,cap,fl,h1,h2⟩
 .exact absurd h0 hn
 .cases h1
  exact ⟨g,fl,rfl,h2⟩
theorem TotV.set {W:World}{n j:Nat}{S a:Nat->Rat}{B g c:Nat}{fl:List E4}(hg:B<=g)(h1:Row W g fl)(h2:fl.length=c)(hn:n<=c)(hc:c<=9223372036854775807)
  (h3:∀i,i<n->Qc W (fl.getD i E4.z).a (fl.getD i E4.z).b (fl.getD i E4.z).c (fl.getD i E4.z).d (midF S a j i)) (h4:∀i,n<=i->fl.getD i E4.z=E4.z) (hj:j<n) {e:E4} (he:e.fq) (hq:Qc W e.a e.b e.c e.d (S j+a j)) :
  TotV (W.setRow g (flat (fl.set j e)).toArray) (.slice (some ⟨g,0,none⟩) n c) n (midF S a (j+1)) B:=by
 have kw:Kw W (W.setRow g (flat (fl.set j e)).toArray):=h1.kw
 refine .inr ⟨g,c,fl.set j e,rfl,hg,h1.app he,by simpa using h2,hn,hc,fun i hi=>?_,fun i hi=>?_⟩
 .by_cases hij:i=j
  .subst hij
   rw[show (fl.set i e).getD i E4.z=e from by simp[List.getD,show i<fl.length by omega],show midF S a (i+1) i=S i+a i from by unfold midF;rw[if_pos (by omega)]]
   exact kw.qc hq
  .rw[show (fl.set j e).getD i E4.z=fl.getD i E4.z from by simp[List.getD,List.getElem?_set,Ne.symm hij],show midF S a (j+1) i=midF S a j i from by unfold midF;have e:(i<j+1)=(i<j):=propext (by omega);simp only[e]]
   exact kw.qc (h3 i hi)
 .rw[show (fl.set j e).getD i E4.z=fl.getD i E4.z from by simp[List.getD,List.getElem?_set,show j≠i by omega]]
  exact h4 i hi
theorem TotV.vr {w W:World}{A:Option Addr}{c:Nat}{rs:List Rat}(h:TotV W (.slice A rs.length c) rs.length (fun i=>rs.getD i 0) w.heap.size)(hl:rs.length<=4398046511104)(hb:Below w.heap.size w W):VR w rs (.returned (.slice A rs.length c)) W:=by
 by_cases h0:rs.length=0
 .obtain rfl:rs=[]:=List.length_eq_zero_iff.1 h0
  rcases h with ⟨_,h⟩|⟨g,cap,fl,h1,h2,h3,h4,h5,h6,h7,h8⟩
  .cases h
   exact ⟨none,0,[],rfl,Vc.nil W (by decide),hb⟩
  .cases h1
   exact ⟨_,c,[],rfl,Vc.nil W h6,hb⟩
 .obtain ⟨g,fl,rfl,h2,h3,h4,h5,h6,h7,h8⟩:=h.row h0
  refine ⟨_,c,fl.take rs.length,rfl,⟨h3.rq _,by rw[List.length_take];omega,fun i=>?_,fun e he=>h3.fq e (List.mem_of_mem_take he),by rw[List.length_take];omega,h6⟩,hb⟩
  by_cases hi:i<rs.length
  .rw[show (fl.take rs.length).getD i E4.z=fl.getD i E4.z from by simp[List.getD,List.getElem?_take,hi]]
   exact h7 i hi
  .rw[getD_ge (l:=rs) (by omega),getD_ge (l:=fl.take rs.length) (by rw[List.length_take];omega)]
   exact ⟨Zc.zero _,Zc.zero _⟩
theorem infoS : (Tryz.prog.info? 38).map (fun i=>(i.zero,i.size,i.bytes))=some (some (.slice none 0 0),1,24):=by kernel_rfl
theorem zero_s (m:Nat):Builtin.zeroCells (.slice none 0 0:Value).cells m=(List.replicate m (.slice none 0 0:Value)).toArray:=by
 show madeCells (.slice none 0 0:Value).cells (m*1)=_
 apply Array.ext'
 apply List.ext_getElem?
 intro j
 unfold madeCells
 have hs:((.slice none 0 0:Value).cells)=#[.slice none 0 0]:=rfl
 rw[hs]
 by_cases h:j<m
 .simp[h,Nat.mod_one]
 .simp[h]
def IsS (v:Value):Prop:=∃A n c,v=.slice A n c
structure RowS (W:World)(g:Nat)(fl:List Value):Prop where
 heap:W.heap[g]?=some (.cells fl.toArray 38 (0,0))
 sl:∀v∈fl,IsS v
section
variable {W V : World} {g : Nat} {fl : List Value}
theorem RowS.lt (h:RowS W g fl):g<W.heap.size:=(Array.getElem?_eq_some_iff.1 h.heap).1
theorem RowS.to (h:RowS W g fl)(hb:Below W.heap.size W V):RowS V g fl:=⟨(hb.block g h.lt).trans h.heap,h.sl⟩
theorem RowS.slice (h:RowS W g fl){p:Addr}(hp:p.block=g){v:Value}(hc:W.cell? p=some v):IsS v:=by
 obtain ⟨b,j,f⟩:=p
 obtain rfl:b=g:=hp
 unfold World.cell? at hc
 simp only[h.heap]at hc
 cases f with
 | none=>simp at hc;exact h.sl _ (List.mem_of_getElem? hc)
 | some f=>simp at hc
theorem RowS.kw (h:RowS W g fl){cs:Array Value} : Kw W (W.setRow g cs):=by
 refine ⟨by simp[World.setRow],fun p n hp=>?_⟩
 have hne:p.block≠g:=fun e=>by
  obtain ⟨A,m,c,e2⟩:=h.slice e hp
  cases e2
 rw[World.cell?_of_block (setRow_other W g p.block cs hne)]
 exact hp
theorem RowS.rq (h:RowS W g fl){cs:Array Value}{B:Nat}{A:Option Addr}{es:List E4}(hr:Rq W B A es)(hf:∀e∈es,e.fq):Rq (W.setRow g cs) B A es:=fun k hk=>by
 obtain ⟨b,o,e,hb,h0,h1,h2,h3⟩:=hr k hk
 obtain ⟨⟨n1,A1,j1,m1,e1,e2⟩,_⟩:=hf _ (List.getElem_mem hk)
 have hne:b≠g:=fun e3=>by
  obtain ⟨A,m,c,e4⟩:=h.slice (p:=⟨b,_,none⟩) e3 h0
  rw[e1]at e4
  cases e4
 have hw:∀p:Addr,p.block=b->(W.setRow g cs).cell? p=W.cell? p:=fun p hp=>World.cell?_of_block (setRow_other W g p.block cs (by rw[hp];exact hne))
 exact ⟨b,o,e,hb,(hw ⟨b,_,none⟩ rfl).trans h0,(hw ⟨b,_,none⟩ rfl).trans h1,(hw ⟨b,_,none⟩ rfl).trans h2,(hw ⟨b,_,none⟩ rfl).trans h3⟩
theorem RowS.vc (h:RowS W g fl){cs:Array Value}{A:Option Addr}{c:Nat}{es:List E4}{rs:List Rat}(hv:Vc W A c es rs):Vc (W.setRow g cs) A c es rs :=
 ⟨by rw[setRow_size];exact h.rq hv.row hv.fq,hv.len,fun i=>h.kw.qc (hv.el i),hv.fq,hv.cap,hv.c63⟩
theorem RowS.app (h:RowS W g fl){n:Nat}{x:Value}(hx:IsS x):RowS (W.setRow g (fl.set n x).toArray) g (fl.set n x) :=
 ⟨setRow_heap W g _ _ _ _ h.heap,fun v hv=>by
  rcases List.mem_or_eq_of_mem_set hv with hv|rfl
  .exact h.sl v hv
  .exact hx⟩
end
def TotS (P:World->Nat->Value->Prop)(W:World)(v:Value)(n B:Nat):Prop :=
 (n=0/\v=.slice none 0 0)∨∃g cap fl,v=.slice (some ⟨g,0,none⟩) n cap/\B<=g/\RowS W g fl/\fl.length=cap/\n<=cap/\cap<=9223372036854775807/\∀i,i<n->P W i (fl.getD i (.slice none 0 0))
theorem TotS.sl {P:World->Nat->Value->Prop}{W:World}{v:Value}{n B:Nat}(h:TotS P W v n B):∃A c,v=.slice A n c:=by
 rcases h with ⟨rfl,rfl⟩|⟨g,cap,fl,rfl,_⟩
 .exact ⟨_,_,rfl⟩
 .exact ⟨_,_,rfl⟩
theorem tot_rows {P:World->Nat->Value->Prop}{W:World}{g B n:Nat}{fl:List Value}(hg:B<=g)(h:RowS W g fl)(hn:n<=fl.length)(hc:fl.length<=9223372036854775807)
  (hq:∀i,i<n->P W i (fl.getD i (.slice none 0 0))):TotS P W (.slice (some ⟨g,0,none⟩) n fl.length) n B:=.inr ⟨g,fl.length,fl,rfl,hg,h,rfl,hn,hc,hq⟩
theorem grown_rows {W:World}{n C:Nat}{es:List Value}{e:Value}(he:IsS e)(hes:∀x∈es,IsS x)(hl:es.length=n)(hC:n+1<=C) :
  (es++e::List.replicate (C-(n+1)) (.slice none 0 0)).toArray=((es++[e]).toArray++Builtin.zeroCells (.slice none 0 0:Value).cells (C-(n+1))) /\
  RowS (W.alloc (.cells (es++e::List.replicate (C-(n+1)) (.slice none 0 0)).toArray 38)) W.heap.size (es++e::List.replicate (C-(n+1)) (.slice none 0 0))/\(es++e::List.replicate (C-(n+1)) (.slice none 0 0)).length=C:=by
 refine ⟨?_,⟨World.alloc_heap_new W _,fun x hx=>?_⟩,by simp;omega⟩
 .rw[zero_s]
  apply Array.ext'
  simp
 .rcases List.mem_append.1 hx with hx|hx
  .exact hes x hx
  .rcases List.mem_cons.1 hx with rfl|hx
   .exact he
   .rw[List.eq_of_mem_replicate hx];exact ⟨_,_,_,rfl⟩
structure KeptS (P:World->Nat->Value->Prop):Prop where
 to:∀{W V:World} {i:Nat} {v:Value},Below W.heap.size W V->P W i v->P V i v
 set:∀{W:World} {g:Nat} {fl:List Value} {cs:Array Value} {i:Nat} {v:Value},RowS W g fl->P W i v->P (W.setRow g cs) i v
theorem TotS.mv {P:World->Nat->Value->Prop}(hP:KeptS P){W V:World}{v:Value}{n B:Nat}(h:TotS P W v n B)(hb:Below W.heap.size W V):TotS P V v n B:=by
 rcases h with h|⟨g,cap,fl,h1,h2,h3,h4,h5,h6,h7⟩
 .exact .inl h
 .exact .inr ⟨g,cap,fl,h1,h2,h3.to hb,h4,h5,h6,fun i hi=>hP.to hb (h7 i hi)⟩
theorem sapp {P:World->Nat->Value->Prop}(hP:KeptS P){W:World}{v:Value}{n:Nat}{B:Nat}(h:TotS P W v n B)(hB:B<=W.heap.size)(hl:n+1<=1000000){x:Value}(hx:IsS x)(hq:P W n x){a:Addr}{c:Nat}
  (h0:W.cell? (a.add 0)=some x) (ty:TypeId) :
  ∃v' W',(Builtin.append_ #[22,22] ty #[v,.slice (some a) 1 c]).run Tryz.prog W=.ok v' W'/\TotS P W' v' (n+1) B/\Below B W W':=by
 obtain ⟨i0,hi,hz0,hz1,hz2⟩:=info_parts infoS
 have hnews:∀j u,[x][j]?=some u->W.cell? (a.add j)=some u:=fun j u hj=>by
  match j,hj with
  | 0,hj=>simp at hj;subst hj;exact h0
 have here:∀(es:List Value) (k:Nat),es.length=n->(es++x::List.replicate k (.slice none 0 0)).getD n (.slice none 0 0)=x:=fun es k hes=>by
  simp[List.getD,List.getElem?_append,hes]
 rcases h with ⟨rfl,rfl⟩|⟨g,cap,fl,rfl,hg,hr,rfl,hn,hc,hqs⟩
 .have hrun:=run_append_nil (P:=Tryz.prog) (w:=W) 22 ty 38 i0 _ Tryz.underlying22 hi hz0 a 1 c [x] (by rw[hz1];rfl) hnews (by decide) (by decide) (by rw[hz2];decide)
  have hge:=grownCap_ge W 1 0 38
  have hle:=grownCap_le_maxLen W 1 0 38 (by unfold maxLen;omega)
  unfold maxLen at hle
  obtain ⟨C,hC⟩:∃C,grownCap W 1 0 38=C:=⟨_,rfl⟩
  rw[hC]at hrun hge hle
  obtain ⟨g1,g2,g3⟩:=grown_rows (W:=W.drew) (n:=0) (C:=C) (es:=[]) hx (fun x hx=>by cases hx) rfl hge
  have hrun':(Builtin.append_ #[22,22] ty #[.slice none 0 0,.slice (some a) 1 c]).run Tryz.prog W=.ok (.slice (some ⟨W.heap.size,0,none⟩) 1 C) (W.drew.alloc (.cells ([]++x::List.replicate (C-(0+1)) (.slice none 0 0)).toArray 38)):=by
   rw[g1]
   exact hrun
  have hbb:Below W.heap.size W (W.drew.alloc (.cells ([]++x::List.replicate (C-(0+1)) (.slice none 0 0)).toArray 38)):=((Below.refl _ W).drew).alloc (Nat.le_refl _) _
  refine ⟨_,_,hrun',?_,hbb.mono hB⟩
  have ht:=tot_rows (P:=P) (n:=1) (B:=B) (g:=W.heap.size) hB g2 (by rw[g3];exact hge) (by rw[g3];omega) (fun i hi=>by
   obtain rfl:i=0:=by omega
   rw[here [] _ rfl]
   exact hP.to hbb hq)
  rw[g3]at ht
  exact ht
 .by_cases hroom:n<fl.length
  .have hrun:=run_append_room (P:=Tryz.prog) W 22 ty 38 i0 Tryz.underlying22 hi g n fl.length _ hr.heap a 1 c [x] (by rw[hz1];rfl) hnews
    (fun u hu=>by rw[List.mem_singleton.1 hu];obtain ⟨A,m,d,rfl⟩:=hx;rfl) (by omega) (by rw[hz1];simp;omega)
   rw[hz1]at hrun
   have e1:fl.set n x=fl.take n++x::fl.drop (n+1):=by
    rw[List.set_eq_take_append_cons_drop,if_pos hroom]
   have hrun':(Builtin.append_ #[22,22] ty #[.slice (some ⟨g,0,none⟩) n fl.length,.slice (some a) 1 c]).run Tryz.prog W=.ok (.slice (some ⟨g,0,none⟩) (n+1) fl.length) (W.setRow g (fl.set n x).toArray):=by
    rw[hrun,e1]
    simp
   refine ⟨_,_,hrun',?_,below_setRow (Below.refl _ _) hg _⟩
   have ht:=tot_rows (P:=P) (n:=n+1) (B:=B) hg (hr.app (n:=n) hx) (by rw[List.length_set];omega) (by rw[List.length_set];exact hc) (fun i hi=>by
    by_cases hin:i=n
    .subst hin
     rw[show (fl.set i x).getD i (.slice none 0 0)=x from by simp[List.getD,hroom]]
     exact hP.set hr hq
    .rw[show (fl.set n x).getD i (.slice none 0 0)=fl.getD i (.slice none 0 0) from by simp[List.getD,List.getElem?_set,Ne.symm hin]]
     exact hP.set hr (hqs i (by omega)))
   rwa [List.length_set]at ht
  .obtain rfl:n=fl.length:=by omega
   have holds:∀j u,fl[j]?=some u->W.cell? ((⟨g,0,none⟩:Addr).add j)=some u:=fun j u hj=>by
    unfold Addr.add
    by_cases hj0:j=0
    .subst hj0;simpa [World.cell?,hr.heap]using hj
    .simpa [hj0,World.cell?,hr.heap]using hj
   have hrun:=run_append_grow (P:=Tryz.prog) (w:=W) 22 ty 38 i0 _ Tryz.underlying22 hi hz0 ⟨g,0,none⟩ fl.length fl.length fl (by rw[hz1];simp) holds a 1 c [x] (by rw[hz1];rfl) hnews (by omega) (by omega)
    (by rw[hz2];exact growslice_fits (by omega) (by omega))
   have hge:=grownCap_ge W (fl.length+1) fl.length 38
   have hle:=grownCap_le_maxLen W (fl.length+1) fl.length 38 (by unfold maxLen;omega)
   unfold maxLen at hle
   obtain ⟨C,hC⟩:∃C,grownCap W (fl.length+1) fl.length 38=C:=⟨_,rfl⟩
   rw[hC]at hrun hge hle
   obtain ⟨g1,g2,g3⟩:=grown_rows (W:=W.drew) (n:=fl.length) (C:=C) (es:=fl) hx hr.sl rfl hge
   have hrun':(Builtin.append_ #[22,22] ty #[.slice (some ⟨g,0,none⟩) fl.length fl.length,.slice (some a) 1 c]).run Tryz.prog W=.ok (.slice (some ⟨W.heap.size,0,none⟩) (fl.length+1) C) (W.drew.alloc (.cells (fl++x::List.replicate (C-(fl.length+1)) (.slice none 0 0)).toArray 38)):=by
    rw[g1,show (fl++[x]).toArray=fl.toArray++[x].toArray from by simp]
    exact hrun
   have hbb:Below W.heap.size W (W.drew.alloc (.cells (fl++x::List.replicate (C-(fl.length+1)) (.slice none 0 0)).toArray 38)):=((Below.refl _ W).drew).alloc (Nat.le_refl _) _
   refine ⟨_,_,hrun',?_,hbb.mono hB⟩
   have ht:=tot_rows (P:=P) (n:=fl.length+1) (B:=B) (g:=W.heap.size) hB g2 (by rw[g3];exact hge) (by rw[g3];omega) (fun i hi=>by
    by_cases hin:i=fl.length
    .subst hin
     rw[here fl _ rfl]
     exact hP.to hbb hq
    .rw[show (fl++x::List.replicate (C-(fl.length+1)) (.slice none 0 0)).getD i (.slice none 0 0)=fl.getD i (.slice none 0 0) from by simp[List.getD,List.getElem?_append,show i<fl.length by omega]]
     exact hP.to hbb (hqs i (by omega)))
   rw[g3]at ht
   exact ht
def zrow (c:Nat):Array Value:=(List.replicate c (.slice none 0 0:Value)).toArray
theorem make_s (W:World)(n c:Nat)(hn:n<=c)(hc:c<=4398046511104) :
  (Instr.makeSlice 22 (.int .i64 (n:Int)) (.int .i64 (c:Int))).run Tryz.prog W=.ok (.slice (some ⟨W.heap.size,0,none⟩) n c) (W.alloc (.cells (zrow c) 38)):=by
 obtain ⟨i0,hi,hz0,hz1,hz2⟩:=info_parts infoS
 have h:=run_make W 22 38 i0 _ Tryz.underlying22 hi hz0 .i64 .i64 n c (by omega) (by omega) (by rw[hz2];omega) (by omega)
 rw[hz1,Int.toNat_natCast,Int.toNat_natCast]at h
 rw[h]
 unfold zrow
 rw[<-zero_s]
 rfl
theorem wpList_makes (w:World){ops:Array Oper}{rest:List Oper}{o:Oper}{a:Act}{Q:Exit->Act->World->Prop}
  (hg:o.guard=none) (l c:Operand) (hop:o.op=Op.makeSlice 22 l c) (N C:Nat) {L D:Int} (hl:a.eval l=.int .i64 L) (hc:a.eval c=.int .i64 D) (hL:L=(N:Int)) (hC:D=(C:Int)) (h1:N<=C) (h2:C<=4398046511104)
  (hK:wpList Tryz.prog ops Q rest (a.put o.dst (.slice (some ⟨w.heap.size,0,none⟩) N C)) (w.alloc (.cells (zrow C) 38))) :
  wpList Tryz.prog ops Q (o::rest) a w:=by
 refine wpList_plain hg fun K hK'=>?_
 have hrun:=make_s w N C h1 h2
 subst hL
 subst hC
 unfold Oper.wp
 simp[execOp,hop,hl,hc,hrun,Result.andThen]
 exact hK' _ _ hK
theorem TotS.new {P:World->Nat->Value->Prop}{W:World}{N B:Nat}(hB:B<=W.heap.size)(hN:N<=9223372036854775807):TotS P (W.alloc (.cells (zrow N) 38)) (.slice (some ⟨W.heap.size,0,none⟩) 0 N) 0 B :=
 .inr ⟨W.heap.size,N,List.replicate N (.slice none 0 0),rfl,hB,⟨World.alloc_heap_new W _,fun v hv=>by rw[List.eq_of_mem_replicate hv];exact ⟨_,_,_,rfl⟩⟩,by simp,Nat.zero_le _,hN,fun i hi=>absurd hi (Nat.not_lt_zero _)⟩
theorem TotV.new {W:World}{N B:Nat}{f:Nat->Rat}(hB:B<=W.heap.size)(hN:N<=9223372036854775807):TotV (W.alloc (.cells (flat (List.replicate N E4.z)).toArray 32)) (.slice (some ⟨W.heap.size,0,none⟩) 0 N) 0 f B :=
 .inr ⟨W.heap.size,N,List.replicate N E4.z,rfl,hB,Row.new W N,by simp,Nat.zero_le _,hN,fun i hi=>absurd hi (Nat.not_lt_zero _),fun i _=>by by_cases h:i<N<;>simp[List.getD,List.getElem?_replicate,h]⟩
def tab (N:Nat)(g:Nat->Rat):List Rat:=(List.range N).map g
theorem tab_length (N:Nat)(g:Nat->Rat):(tab N g).length=N:=by simp[tab]
theorem tab_getD {N i:Nat}(g:Nat->Rat)(h:i<N):(tab N g).getD i 0=g i:=by simp[tab,List.getD,h]
theorem tab_ge {N i:Nat}(g:Nat->Rat)(h:N<=i):(tab N g).getD i 0=0:=getD_ge (by rw[tab_length];exact h)
theorem TotV.vtab {w W:World}{A:Option Addr}{N c:Nat}{g:Nat->Rat}(h:TotV W (.slice A N c) N g w.heap.size)(hl:N<=4398046511104)(hb:Below w.heap.size w W):VR w (tab N g) (.returned (.slice A N c)) W:=by
 obtain ⟨l,h2⟩:∃l,tab N g=l:=⟨_,rfl⟩
 have e:l.length=N:=by rw[<-h2,tab_length]
 rw[h2]
 subst e
 refine (h.congr (f':=fun i=>l.getD i 0) (fun i hi=>?_)).vr hl hb
 rw[<-h2,tab_length]at hi
 rw[<-h2]
 exact (tab_getD g hi).symm
def colsN (rs:Nat->List Rat):Nat->Nat
 | 0=>0
 | k+1=>max (colsN rs k) (rs k).length
theorem colsN_ge (rs:Nat->List Rat):∀{N k:Nat},k<N->(rs k).length<=colsN rs N
 | 0,_,h=>absurd h (Nat.not_lt_zero _)
 | N+1,k,h=>by
  by_cases hk:k=N
  .subst hk;exact Nat.le_max_right _ _
  .exact Nat.le_trans (colsN_ge rs (by omega)) (Nat.le_max_left _ _)
theorem colsN_le {rs:Nat->List Rat}{M:Nat} : ∀{N:Nat},(∀k,k<N->(rs k).length<=M)->colsN rs N<=M
 | 0,_=>Nat.zero_le _
 | N+1,h=>Nat.max_le.2 ⟨colsN_le (fun k hk=>h k (by omega)),h N (by omega)⟩
structure Mc (W:World)(P:Option Addr)(N C:Nat)(rs:Nat->List Rat):Prop where
 row:∀k,k<N->∃b o A c es,P=some ⟨b,o,none⟩/\b<W.heap.size/\W.cell? ⟨b,o+k,none⟩=some (.slice A (rs k).length c)/\Vc W A c es (rs k)
 n63:N<=9223372036854775807
structure Mi (W:World)(P:Option Addr)(N C:Nat)(rs:Nat->List Rat)(m:Nat):Prop where
 row:∀k,k<N->∃b o A c es,P=some ⟨b,o,none⟩/\b<W.heap.size/\W.cell? ⟨b,o+k,none⟩=some (.slice A (rs k).length c)/\Vi W A c es (rs k) m
 n63:N<=9223372036854775807
section
variable {W V : World} {P : Option Addr} {N C m : Nat} {rs : Nat -> List Rat}
theorem Mc.to (h:Mc W P N C rs)(hb:Below W.heap.size W V):Mc V P N C rs :=
 ⟨fun k hk=>by
  obtain ⟨b,o,A,c,es,e,h1,h2,h3⟩:=h.row k hk
  exact ⟨b,o,A,c,es,e,Nat.lt_of_lt_of_le h1 hb.size,(hb.cell (p:=⟨b,_,none⟩) h1).trans h2,h3.to hb⟩,h.n63⟩
theorem Mi.to (h:Mi W P N C rs m)(hb:Below W.heap.size W V):Mi V P N C rs m :=
 ⟨fun k hk=>by
  obtain ⟨b,o,A,c,es,e,h1,h2,h3⟩:=h.row k hk
  exact ⟨b,o,A,c,es,e,Nat.lt_of_lt_of_le h1 hb.size,(hb.cell (p:=⟨b,_,none⟩) h1).trans h2,h3.to hb⟩,h.n63⟩
theorem Mc.mi (h:Mc W P N C rs)(hm:m<=10000)(hq:∀k,k<N->∀i,Qm m ((rs k).getD i 0)):Mi W P N C rs m :=
 ⟨fun k hk=>by
  obtain ⟨b,o,A,c,es,e,h1,h2,h3⟩:=h.row k hk
  exact ⟨b,o,A,c,es,e,h1,h2,h3.vi (hq k hk) hm⟩,h.n63⟩
end
def MR (w:World)(N:Nat)(rs:Nat->List Rat)(e:Ending)(w':World):Prop:=∃P C,e=.returned (.slice P N C)/\Mc w' P N C rs/\Below w.heap.size w w'
def Vs (rs:Nat->List Rat)(W:World)(i:Nat)(v:Value):Prop:=∃A c es,v=.slice A (rs i).length c/\Vc W A c es (rs i)
theorem Vs.kept (rs:Nat->List Rat):KeptS (Vs rs) where
 to:=fun hb h=>by
  obtain ⟨A,c,es,e,h⟩:=h
  exact ⟨A,c,es,e,h.to hb⟩
 set:=fun hr h=>by
  obtain ⟨A,c,es,e,h⟩:=h
  exact ⟨A,c,es,e,hr.vc h⟩
theorem TotS.mc {rs:Nat->List Rat}{W:World}{P:Option Addr}{n c B:Nat}(h:TotS (Vs rs) W (.slice P n c) n B):Mc W P n c rs:=by
 rcases h with ⟨rfl,h⟩|⟨g,cap,fl,h1,h2,h3,h4,h5,h6,h7⟩
 .cases h
  exact ⟨fun k hk=>absurd hk (Nat.not_lt_zero _),by decide⟩
 .cases h1
  refine ⟨fun k hk=>?_,Nat.le_trans h5 h6⟩
  obtain ⟨A,d,es,e,h8⟩:=h7 k hk
  refine ⟨g,0,A,d,es,rfl,h3.lt,?_,h8⟩
  rw[<-e]
  have hk2:k<fl.length:=by omega
  simp[World.cell?,h3.heap,List.getD,hk2]
end Go.Proofs.YtglhdielkkhefaaGreat
