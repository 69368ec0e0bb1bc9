/- Parts: 9. -/
import Derived.Test.YtglhdielkkhefaaGreatMl10
import Derived.Test.YtglhdielkkhefaaGreatMl14
set_option linter.unusedVariables false
set_option linter.unusedSimpArgs false
set_option maxRecDepth 100000
set_option maxHeartbeats 40000000

namespace Go.Proofs.YtglhdielkkhefaaGreat
open Go.RowKit Go.Shelf
theorem getD_lt {α:Type}{l:List α}{i:Nat}{d:α}(h:i<l.length):l.getD i d=l[i]:=by simp[List.getD,h]
theorem getD_ge {α:Type}{l:List α}{i:Nat}{d:α}(h:l.length<=i):l.getD i d=d:=by simp[List.getD,h]
def ptw (F:Rat->Rat->Rat)(rs ss:List Rat):List Rat:=(List.range (max rs.length ss.length)).map fun i=>F (rs.getD i 0) (ss.getD i 0)
theorem Row.vc {W:World}{g N:Nat}{fl:List E4}{rs:List Rat}(h:Row W g fl)(hl:fl.length=N)(hr:rs.length=N)(hN:N<=4398046511104)
  (hq:∀i,i<N->Qc W (fl.getD i E4.z).a (fl.getD i E4.z).b (fl.getD i E4.z).c (fl.getD i E4.z).d (rs.getD i 0)):Vc W (some ⟨g,0,none⟩) N fl rs:=by
 refine ⟨?_,by omega,fun i=>?_,h.fq,by omega,by omega⟩
 .have h1:=h.rq N
  rwa [List.take_of_length_le (by omega)]at h1
 .by_cases hi:i<N
  .exact hq i hi
  .rw[getD_ge (l:=rs) (by omega),getD_ge (l:=fl) (by omega)];exact ⟨Zc.zero _,Zc.zero _⟩
theorem zp_t {w:World}{a1 a2 a3 a4 b1 b2 b3 b4:Value}{r s:Rat}{k l:Nat}(hA:Qi w a1 a2 a3 a4 r k)(hB:Qi w b1 b2 b3 b4 s l)(h0:r=0) :
  Calls Tryz.prog 89 #[.agg #[a1,a2,a3,a4],.agg #[b1,b2,b3,b4]] w (fun e w'=>e=.returned (.bool true)/\Below w.heap.size w w'):=by
 have hs:Hid (sgnQ r=0):=sgnQ_zero.2 h0;clear h0;obtain ⟨W0,hW0⟩:∃W0,W0=(w.alloc (.cells #[a1,a2,a3,a4] 32)).alloc (.cells #[b1,b2,b3,b4] 32):=⟨_,rfl⟩
 have hbw:Below w.heap.size w W0:=by rw[hW0];exact (bRR.alloc (by simp) _)
 have tA:Four W0 (w.heap.size) a1 a2 a3 a4:=by
  have h:=Four.new w a1 a2 a3 a4 32;rw[hW0];exact (h.alloc _)
 have tB:Four W0 (w.heap.size+1) b1 b2 b3 b4:=by
  have h:=Four.new (w.alloc (.cells #[a1,a2,a3,a4] 32)) b1 b2 b3 b4 32;rw[szA]at h;rw[hW0];exact h
 replace hA:=hA.to hbw;replace hB:=hB.to hbw;have HW0:=Hd hW0;have HB:=Hd hbw;clear hW0 hbw
 go_enter Tryz.func89,Tryz.ntmps89
 go_wp2_with fail
 rw[<-HW0.out];clear HW0;have kktA0:=tA.c0;have kktA1:=tA.c1;have kktA2:=tA.c2;have kktA3:=tA.c3;have kktB0:=tB.c0;have kktB1:=tB.c1;have kktB2:=tB.c2;have kktB3:=tB.c3
 go_wp2_with fail
 refine (sign_q hA hs.out).mono ?_;rintro e V1 ⟨rfl,bb⟩;clear kktA0 kktA1 kktA2 kktA3 kktB0 kktB1 kktB2 kktB3;replace tA:=tA.to bb;replace tB:=tB.to bb;replace HB:=Hxb HB bb;clear bb;clear tA tB;go_wp2
 go_ret
 exact ⟨rfl,HB.out⟩
theorem zp_f {w:World}{a1 a2 a3 a4 b1 b2 b3 b4:Value}{r s:Rat}{k l:Nat}(hA:Qi w a1 a2 a3 a4 r k)(hB:Qi w b1 b2 b3 b4 s l)(h0:r≠0){v:Bool}(hv:decide (s=0)=v) :
  Calls Tryz.prog 89 #[.agg #[a1,a2,a3,a4],.agg #[b1,b2,b3,b4]] w (fun e w'=>e=.returned (.bool v)/\Below w.heap.size w w'):=by
 obtain ⟨x,hx⟩:∃x,sgnQ r=x:=⟨_,rfl⟩
 obtain ⟨y,hy⟩:∃y,sgnQ s=y:=⟨_,rfl⟩
 have e1:(x==0)=false:=by rw[beq_eq_false_iff_ne,<-hx];exact fun h=>h0 (sgnQ_zero.1 h)
 have e2:(y==0)=v:=by rw[<-hv,<-hy,Bool.eq_iff_iff];simp[sgnQ_zero]
 have HX:=Hd hx;have HY:=Hd hy;clear hx hy h0 hv;obtain ⟨W0,hW0⟩:∃W0,W0=(w.alloc (.cells #[a1,a2,a3,a4] 32)).alloc (.cells #[b1,b2,b3,b4] 32):=⟨_,rfl⟩
 have hbw:Below w.heap.size w W0:=by rw[hW0];exact (bRR.alloc (by simp) _)
 have tA:Four W0 (w.heap.size) a1 a2 a3 a4:=by
  have h:=Four.new w a1 a2 a3 a4 32;rw[hW0];exact (h.alloc _)
 have tB:Four W0 (w.heap.size+1) b1 b2 b3 b4:=by
  have h:=Four.new (w.alloc (.cells #[a1,a2,a3,a4] 32)) b1 b2 b3 b4 32;rw[szA]at h;rw[hW0];exact h
 replace hA:=hA.to hbw;replace hB:=hB.to hbw;have HW0:=Hd hW0;have HB:=Hd hbw;clear hW0 hbw
 go_enter Tryz.func89,Tryz.ntmps89
 go_wp2_with fail
 rw[<-HW0.out];clear HW0;have kktA0:=tA.c0;have kktA1:=tA.c1;have kktA2:=tA.c2;have kktA3:=tA.c3;have kktB0:=tB.c0;have kktB1:=tB.c1;have kktB2:=tB.c2;have kktB3:=tB.c3
 go_wp2_with fail
 refine (sign_q hA HX.out).mono ?_;rintro e V1 ⟨rfl,bb⟩;clear kktA0 kktA1 kktA2 kktA3 kktB0 kktB1 kktB2 kktB3;replace tA:=tA.to bb;replace tB:=tB.to bb;replace hB:=hB.to bb;replace HB:=Hxb HB bb;clear bb;have kktA0:=tA.c0;have kktA1:=tA.c1;have kktA2:=tA.c2;have kktA3:=tA.c3;have kktB0:=tB.c0;have kktB1:=tB.c1;have kktB2:=tB.c2;have kktB3:=tB.c3
 go_wp2_with fail
 refine (sign_q hB HY.out).mono ?_;rintro e V2 ⟨rfl,bb⟩;clear kktA0 kktA1 kktA2 kktA3 kktB0 kktB1 kktB2 kktB3;replace tA:=tA.to bb;replace tB:=tB.to bb;replace HB:=Hxb HB bb;clear bb;clear tA tB;go_wp2
 go_ret
 exact ⟨rfl,HB.out⟩
theorem zp_v {w:World}{a1 a2 a3 a4 b1 b2 b3 b4:Value}{r s:Rat}{k l:Nat}(hA:Qi w a1 a2 a3 a4 r k)(hB:Qi w b1 b2 b3 b4 s l){v:Bool}(hv:decide (r=0∨s=0)=v):Calls Tryz.prog 89 #[.agg #[a1,a2,a3,a4],.agg #[b1,b2,b3,b4]] w fun e w'=>e=.returned (.bool v)/\Below w.heap.size w w':=by
 by_cases h0:r=0
 .rw[<-hv,decide_eq_true (.inl h0)];exact zp_t hA hB h0
 .exact zp_f hA hB h0 (by rw[<-hv,decide_eq_decide];exact ⟨.inr,fun h=>h.resolve_left h0⟩)
def Racc (W:World)(g N k:Nat)(f:Nat->Rat):Prop:=∃fl,Row W g fl/\fl.length=N/\∀i,i<k->Qc W (fl.getD i E4.z).a (fl.getD i E4.z).b (fl.getD i E4.z).c (fl.getD i E4.z).d (f i)
theorem Racc.to {W V:World}{g N k:Nat}{f:Nat->Rat}(h:Racc W g N k f)(hb:Below W.heap.size W V):Racc V g N k f:=by
 obtain ⟨fl,h1,h2,h3⟩:=h;exact ⟨fl,h1.to hb,h2,fun i hi=>(h3 i hi).to hb⟩
theorem Racc.set {W:World}{g N k:Nat}{f:Nat->Rat}{fl:List E4}(h1:Row W g fl)(h2:fl.length=N)(h3:∀i,i<k->Qc W (fl.getD i E4.z).a (fl.getD i E4.z).b (fl.getD i E4.z).c (fl.getD i E4.z).d (f i))(hk:k<N){e:E4}(he:e.fq)(hq:Qc W e.a e.b e.c e.d (f k)) :
  Racc (W.setRow g (flat (fl.set k e)).toArray) g N (k+1) f:=by
 have kw:Kw W (W.setRow g (flat (fl.set k e)).toArray):=h1.kw;refine ⟨fl.set k e,h1.app he,by simpa using h2,fun i hi=>?_⟩
 by_cases hik:i=k
 .subst hik;rw[show (fl.set i e).getD i E4.z=e from by simp[List.getD,show i<fl.length by omega]];exact kw.qc hq
 .rw[show (fl.set k e).getD i E4.z=fl.getD i E4.z from by simp[List.getD,List.getElem?_set,Ne.symm hik]];exact kw.qc (h3 i (by omega))
theorem Racc.more {W:World}{g N k:Nat}{f:Nat->Rat}(h:Racc W g N k f)(hk:k<N){e:E4}(he:e.fq)(hq:Qc W e.a e.b e.c e.d (f k)){a:Addr}{c:Nat}
  (h0:W.cell? (a.add 0)=some e.a) (h1:W.cell? (a.add 1)=some e.b) (h2:W.cell? (a.add 2)=some e.c) (h3:W.cell? (a.add 3)=some e.d) (ty:TypeId) :
  ∃X,(Builtin.append_ #[38,38] ty #[.slice (some ⟨g,0,none⟩) k N,.slice (some a) 1 c]).run Tryz.prog W=.ok (.slice (some ⟨g,0,none⟩) (k+1) N) X/\Racc X g N (k+1) f/\∀B,B<=g->Below B W X:=by
 obtain ⟨fl,r1,rfl,r3⟩:=h;exact ⟨_,append_q r1 hk he h0 h1 h2 h3 (c:=c) ty,Racc.set r1 rfl r3 hk he hq,fun B hB=>below_setRow (Below.refl _ _) hB _⟩
theorem run_storeq {W:World}{g k:Nat}{fl:List E4}{e:E4}(h:Row W g fl)(hk:k<fl.length)(he:e.fq) :
  (Instr.storeAt 32 (.pointer (some ⟨g,k*4,none⟩)) e.v).run Tryz.prog W=.ok () (W.setRow g (flat (fl.set k e)).toArray):=by
 obtain ⟨i0,hi,hz0,hz1,hz2⟩:=info_parts infoQ;have hst:=run_storeCells_at Tryz.prog g (k*4) 32 [e.a,e.b,e.c,e.d] 0 _ W h.heap (by simp[flat_length];omega) (fq_cells he);have e1:fl.set k e=fl.take k++e::fl.drop (k+1):=by rw[List.set_eq_take_append_cons_drop,if_pos hk]
 have e2:(flat fl).drop (k*4+4)=flat (fl.drop (k+1)):=by rw[show k*4+4=(k+1)*4 from by omega,flat_drop]
 rw[e1,flat_app];simp only[List.toList_toArray,Nat.add_zero,flat_take,List.length_cons,List.length_nil,Nat.reduceAdd,e2,List.append_assoc,List.cons_append,List.nil_append]at hst;have e3:e.v.cells=#[e.a,e.b,e.c,e.d]:=rfl;simp[Instr.storeAt,Instr.sureAddr,storeVar,sizeOf,typeInfo,hi,hz1,e3,hst,flat]
theorem wpList_storeq {W:World}{ops:Array Oper}{rest:List Oper}{o:Oper}{a:Act}{Q:Exit->Act->World->Prop}{g k:Nat}{fl:List E4}{e:E4}
  (hg:o.guard=none) (p v:Operand) (hop:o.op=Op.store 32 p v) (hp:a.eval p=.pointer (some ⟨g,k*4,none⟩)) (hv:a.eval v=e.v) (h:Row W g fl) (hk:k<fl.length) (he:e.fq)
  (hK:wpList Tryz.prog ops Q rest (a.put o.dst undef) (W.setRow g (flat (fl.set k e)).toArray)):wpList Tryz.prog ops Q (o::rest) a W:=by
 refine wpList_plain hg fun K hK'=>?_
 have hrun:=run_storeq h hk he;unfold Oper.wp;simp[execOp,hop,hp,hv,hrun,Result.andThen];exact hK' _ _ hK
def ratsOf (ns:List Int):List Rat:=ns.map fun n:Int=>(n:Rat)
theorem ratsOf_length (ns:List Int):(ratsOf ns).length=ns.length:=by simp[ratsOf]
theorem ratsOf_getD {ns:List Int}{i:Nat}(h:i<ns.length):(ratsOf ns).getD i 0=((ns.getD i 0:Int):Rat):=by simp[ratsOf,List.getD,h]
def Rn (W:World)(A:Option Addr)(ns:List Int):Prop:=∀(k:Nat) (h:k<ns.length),∃b o,A=some ⟨b,o,none⟩/\W.cell? ⟨b,o+k,none⟩=some (.int .i64 ns[k])
theorem ints_v {w:World}{A:Option Addr}{c:Nat}{ns:List Int}(h:Rn w A ns)(hn:∀n∈ns,-9223372036854775808<=n/\n<=9223372036854775807)(hl:ns.length<=4398046511104) :
  Calls Tryz.prog 49 #[.slice A ns.length c] w (VR w (ratsOf ns)):=by
 have H:=Hd h;have HN:=Hd hn;have HL:=Hd hl;obtain ⟨f,hf⟩:∃f:Nat->Rat,Hid (f=fun i=>((ns.getD i 0:Int):Rat)):=⟨_,rfl⟩
 obtain ⟨N,hN⟩:∃N,ns.length=N:=⟨_,rfl⟩
 have HNN:=Hd hN;rw[hN]at hl HL ⊢;clear h hn hN
 go_enter Tryz.func49,Tryz.ntmps49
 go_wp2_with (at_make;refine wpList_makeq _ rfl _ _ rfl 0 N rfl rfl (by omega) (by omega) (Nat.zero_le _) HL.out ?_)
 have hacc:Racc (w.alloc (.cells (flat (List.replicate N E4.z)).toArray 32)) w.heap.size N 0 f:=⟨_,Row.new w N,by simp,fun i hi=>by omega⟩
 have hbw:Below w.heap.size w (w.alloc (.cells (flat (List.replicate N E4.z)).toArray 32)):=bRR;generalize w.alloc (.cells (flat (List.replicate N E4.z)).toArray 32)=w1 at hacc hbw ⊢
 go_loopw [3,11] (fun v i wr=>∃k:Nat,v=.slice (some ⟨w.heap.size,0,none⟩) k N/\i=.int .i64 k/\k<=N/\Racc wr w.heap.size N k f/\Below w.heap.size w wr) (fun _ i _=>N-(intOf i).toNat)
 case atStart=>exact ⟨0,rfl,rfl,Nat.zero_le _,hacc,hbw⟩
 case round =>
  obtain ⟨k,rfl,rfl,hk,hra,hb⟩:=hrel;clear hacc hbw
  by_cases hlt:k<N
  .have hk1:(0:Int)<=(k:Int):=by omega
   have hk2:(k:Int)<(N:Int):=by omega
   have hk3:(k:Int)+1<=9223372036854775807:=by omega
   have hkn:k<ns.length:=by have:=HNN.out;omega
   obtain ⟨b,o,rfl,hc⟩:=H.out k hkn;have hbn:=HN.out _ (List.getElem_mem hkn);have hfk:Hid (f k=((ns[k]:Int):Rat)):=by show _=_;rw[hf.out];simp[List.getD,hkn]
   have cc:=(hb.cell (p:=⟨b,o+k,none⟩) (World.block_lt_of_cell? w _ hc)).trans hc;generalize ns[k]=n at hbn hfk cc;have HR:=Hd hra;have HB:=Hd hb;have HLT:=Hd hlt;have HBN:=Hd hbn;clear hc hra hb hkn hbn hlt
   go_wp2_with fail
   refine (fromInt_q n HBN.out.1 HBN.out.2 wr).mono ?_;rintro e V ⟨x1,x2,x3,x4,rfl,q,bb⟩;have hra:=HR.out.to bb;have bb2:Below V.heap.size V (V.alloc (.cells #[x1,x2,x3,x4] 32)):=bRR;have c5:=(Hp.new V #[x1,x2,x3,x4] 32).four;obtain ⟨X,hrun,hra',hbel⟩:=(hra.to bb2).more HLT.out (e:=⟨x1,x2,x3,x4⟩) q.fq (by rw[hfk.out];exact q.to bb2) (a:=⟨V.heap.size,0,none⟩) (c:=1) c5.c0 c5.c1 c5.c2 c5.c3 38;have HRUN:=Hd hrun;have HE:Hid (Racc X w.heap.size N (k+1) f/\Below w.heap.size w X):=⟨hra',((HB.out.trans (bb.mono HB.out.size)).trans (bb2.mono (by have:=bb.size;have:=HB.out.size;omega))).trans (hbel _ (Nat.le_refl _))⟩
   clear hra bb2 c5 hra' hbel hrun bb q
   go_wp2_with (at_builtin;refine wpList_append_run rfl (.tmp 15) (.tmp 18) 38 rfl (by rfl) (by rfl) HRUN.out ?_;clear HRUN)
   go_roundw
   case rel=>exact ⟨k+1,rfl,by simp,HLT.out,HE.out.1,HE.out.2⟩
   case measure=>have:=HLT.out;simp[intOf];omega
  .obtain rfl:k=N:=by omega
   have HR:=Hd hra;have HB:=Hd hb;clear hra hb hlt;go_wp2
   go_ret
   obtain ⟨fl,r1,r2,r3⟩:=HR.out;refine ⟨some ⟨w.heap.size,0,none⟩,k,fl,(by rw[ratsOf_length,HNN.out];rfl),r1.vc r2 (by rw[ratsOf_length,HNN.out]) HL.out fun i hi=>?_,HB.out⟩;have h:=r3 i hi;rw[hf.out]at h;rw[ratsOf_getD (by rw[HNN.out];exact hi)];exact h
theorem op_storeq {W:World}{d:Option Tmp}{ty:TypeId}{pos:String}{after:Array Edge}{guard:Option (Nat×Bool)}{a:Act}{K:Act->World->Prop}{Q:Exit->Act->World->Prop}{g k:Nat}{fl:List E4}{e:E4}{p v:Operand}
  (hp:a.eval p=.pointer (some ⟨g,k*4,none⟩)) (hv:a.eval v=e.v) (h:Row W g fl) (hk:k<fl.length) (he:e.fq) (hK:K (a.put d undef) (W.setRow g (flat (fl.set k e)).toArray)) :
  Oper.wp Tryz.prog ⟨d,.store 32 p v,ty,pos,after,guard⟩ a W K Q:=by
 have hrun:=run_storeq h hk he;unfold Oper.wp;simp[execOp,hp,hv,hrun,Result.andThen];exact hK
theorem wpListIn_storeq {F:Fence}{n:Nat}{W:World}{ops:Array Oper}{rest:List Oper}{o:Oper}{a:Act}{Q:Exit->Act->World->Prop}{g k:Nat}{fl:List E4}{e:E4}
  (hg:o.guard=none) (p v:Operand) (hop:o.op=Op.store 32 p v) (hp:a.eval p=.pointer (some ⟨g,k*4,none⟩)) (hv:a.eval v=e.v) (h:Row W g fl) (hk:k<fl.length) (he:e.fq)
  (hK:wpListIn F n Tryz.prog ops Q rest (a.put o.dst undef) (W.setRow g (flat (fl.set k e)).toArray)):wpListIn F n Tryz.prog ops Q (o::rest) a W:=by
 refine wpListIn_plain hg fun K hK'=>?_
 have hrun:=run_storeq h hk he;unfold Oper.wpIn;refine ⟨?_,?_⟩
 .simp[Oper.about,hop]
 .rw[Oper.semAt_plain F _ _ (by rw[hop];intro c hc';cases hc')];simp[execOp,hop,hp,hv,hrun,Result.andThen];exact hK' _ _ hK
theorem Row.four {W:World}{g:Nat}{e:E4}(h:Row W g [e]):Four W g e.a e.b e.c e.d:=Four.of h.heap
theorem Row.one {W:World}{g:Nat}{a b c d:Value}(h:Hp W g (.cells #[a,b,c,d] 32 (0,0)))(hf:Fq a b c d):Row W g [⟨a,b,c,d⟩]:=⟨h,fun e he=>by rw[List.mem_singleton.1 he];exact hf⟩
def DotR (w:World)(tot:Nat)(T:Rat)(e:Ending)(w':World):Prop :=
 (∃v,e=.returned v)/\∃E,Row w' tot [E]/\Qc w' E.a E.b E.c E.d T/\w.heap.size<=w'.heap.size/\(∀j,j<w.heap.size->j≠tot->w'.heap[j]?=w.heap[j]?)/\∀B,B<=tot->Below B w w'
theorem DotR.of {w V:World}{tot:Nat}{T:Rat}{v:Value}{E:E4}(hE:Row w tot [E])(qE:Qc w E.a E.b E.c E.d T)(h:Below w.heap.size w V):DotR w tot T (.returned v) V :=
 ⟨⟨_,rfl⟩,E,hE.to h,qE.to h,h.size,fun j hj _=>h.block j hj,fun B hB=>h.mono (by have:=hE.lt;omega)⟩
theorem dot1_z {w:World}{a1 a2 a3 a4 b1 b2 b3 b4:Value}{r s t:Rat}{k l m tot:Nat}{E:E4}(hT:Row w tot [E])(qT:Qc w E.a E.b E.c E.d t)(hA:Qi w a1 a2 a3 a4 r k)(hB:Qi w b1 b2 b3 b4 s l)(h0:r=0∨s=0) :
  Calls Tryz.prog 88 #[.agg #[a1,a2,a3,a4],.agg #[b1,b2,b3,b4],.pointer (some ⟨tot,0,none⟩)] w (DotR w tot (t+r*s)):=by
 have hz:Hid (decide (r=0∨s=0)=true):=decide_eq_true h0
 have he:t+r*s=t:=by rcases h0 with h0|h0<;>rw[h0]<;>simp[Rat.zero_mul,Rat.mul_zero,Rat.add_zero]
 rw[he];have HT:=Hd hT;have QT:=Hd qT;clear h0 he hT qT;obtain ⟨W0,hW0⟩:∃W0,W0=(w.alloc (.cells #[a1,a2,a3,a4] 32)).alloc (.cells #[b1,b2,b3,b4] 32):=⟨_,rfl⟩
 have hbw:Below w.heap.size w W0:=by rw[hW0];exact (bRR.alloc (by simp) _)
 have tA:Four W0 (w.heap.size) a1 a2 a3 a4:=by
  have h:=Four.new w a1 a2 a3 a4 32;rw[hW0];exact (h.alloc _)
 have tB:Four W0 (w.heap.size+1) b1 b2 b3 b4:=by
  have h:=Four.new (w.alloc (.cells #[a1,a2,a3,a4] 32)) b1 b2 b3 b4 32;rw[szA]at h;rw[hW0];exact h
 replace hA:=hA.to hbw;replace hB:=hB.to hbw;have HW0:=Hd hW0;have HB:=Hd hbw;clear hW0 hbw
 go_enter Tryz.func88,Tryz.ntmps88
 go_wp2_with fail
 rw[<-HW0.out];clear HW0;have kktA0:=tA.c0;have kktA1:=tA.c1;have kktA2:=tA.c2;have kktA3:=tA.c3;have kktB0:=tB.c0;have kktB1:=tB.c1;have kktB2:=tB.c2;have kktB3:=tB.c3
 go_wp2_with fail
 refine (zp_v hA hB hz.out).mono ?_;rintro e V1 ⟨rfl,bb⟩;clear kktA0 kktA1 kktA2 kktA3 kktB0 kktB1 kktB2 kktB3;replace tA:=tA.to bb;replace tB:=tB.to bb;replace HB:=Hxb HB bb;clear bb;clear tA tB;go_wp2
 refine bodyPost_ret (results_none rfl _ _ _) rfl ?_;exact DotR.of HT.out QT.out HB.out
theorem dot1_n {w:World}{a1 a2 a3 a4 b1 b2 b3 b4:Value}{r s t:Rat}{k l m tot:Nat}{E:E4}(hT:Row w tot [E])(qT:Qc w E.a E.b E.c E.d t)(hA:Qi w a1 a2 a3 a4 r k)(hB:Qi w b1 b2 b3 b4 s l)(h0:¬(r=0∨s=0))(mT:Qm m t)(hk:0<k)(hl:0<l)(hkl:k+l+1<=10000)(hm:m+(k+l)+1<=10000) :
  Calls Tryz.prog 88 #[.agg #[a1,a2,a3,a4],.agg #[b1,b2,b3,b4],.pointer (some ⟨tot,0,none⟩)] w (DotR w tot (t+r*s)):=by
 have hz:Hid (decide (r=0∨s=0)=false):=decide_eq_false h0;have mP:Qm (k+l) (r*s):=(hA.qm hk).mul (hB.qm hl);have hm0:=mT.pos;have hM:Hid (∀(V:World),Qi V a1 a2 a3 a4 r k->Qi V b1 b2 b3 b4 s l->Calls Tryz.prog 91 #[.agg #[a1,a2,a3,a4],.agg #[b1,b2,b3,b4]] V (QR V (r*s))):=fun V h h'=>mul_q h h' hk hl hkl
 have hS:Hid (∀(V:World) (x1 x2 x3 x4 y1 y2 y3 y4:Value),Qc V x1 x2 x3 x4 t->Qc V y1 y2 y3 y4 (r*s)->Calls Tryz.prog 90 #[.agg #[x1,x2,x3,x4],.agg #[y1,y2,y3,y4]] V (QR V (t+r*s))):=fun V x1 x2 x3 x4 y1 y2 y3 y4 h h'=>add_q (h.qi mT (by omega)) (h'.qi mP (by omega)) (by omega) (by omega) hm
 have hlt:tot<w.heap.size:=hT.lt;have hT0:=Hd hT;clear h0 mP mT hm0;obtain ⟨W0,hW0⟩:∃W0,W0=(w.alloc (.cells #[a1,a2,a3,a4] 32)).alloc (.cells #[b1,b2,b3,b4] 32):=⟨_,rfl⟩
 have hbw:Below w.heap.size w W0:=by rw[hW0];exact (bRR.alloc (by simp) _)
 have tA:Four W0 (w.heap.size) a1 a2 a3 a4:=by
  have h:=Four.new w a1 a2 a3 a4 32;rw[hW0];exact (h.alloc _)
 have tB:Four W0 (w.heap.size+1) b1 b2 b3 b4:=by
  have h:=Four.new (w.alloc (.cells #[a1,a2,a3,a4] 32)) b1 b2 b3 b4 32;rw[szA]at h;rw[hW0];exact h
 replace hA:=hA.to hbw;replace hB:=hB.to hbw;replace hT:=hT.to hbw;replace qT:=qT.to hbw;have HW0:=Hd hW0;have HB:=Hd hbw;clear hW0 hbw
 go_enter Tryz.func88,Tryz.ntmps88
 go_wp2_with fail
 rw[<-HW0.out];clear HW0;have kktA0:=tA.c0;have kktA1:=tA.c1;have kktA2:=tA.c2;have kktA3:=tA.c3;have kktB0:=tB.c0;have kktB1:=tB.c1;have kktB2:=tB.c2;have kktB3:=tB.c3
 go_wp2_with fail
 refine (zp_v hA hB hz.out).mono ?_;rintro e V1 ⟨rfl,bb⟩;clear kktA0 kktA1 kktA2 kktA3 kktB0 kktB1 kktB2 kktB3;replace tA:=tA.to bb;replace tB:=tB.to bb;replace hA:=hA.to bb;replace hB:=hB.to bb;replace hT:=hT.to bb;replace qT:=qT.to bb;replace HB:=Hxb HB bb;clear bb;obtain ⟨e1,e2,e3,e4⟩:=E;clear hz
 go_wp2_with fail
 have hbw:=HB.out;obtain ⟨W1,hW1⟩:∃W1,W1=V1:=⟨_,rfl⟩
 rw[<-hW1]at hbw hA hB hT qT tA tB ⊢;clear hW1 HB;refine wp_region_planTo (S:=fun _=>True) [] #[false,false,false,false,false,false] 6 (by kernel_rfl) (by kernel_rfl) trivial ?_;intro _;refine dag (fun G up dn=>?_)
 have D01234:∀(V:World) (hV:Below W1.heap.size W1 V) (m1 m2 m3 m4 s1 s2 s3 s4:Value) (hQ:Qc V s1 s2 s3 s4 (t+r*s)),G 1 #[true,true,true,true,true,false] ⟨#[.agg #[a1,a2,a3,a4],.agg #[b1,b2,b3,b4],.pointer (some ⟨tot,0,none⟩),.pointer (some ⟨w.heap.size,0,none⟩),.pointer (some ⟨w.heap.size+1,0,none⟩),.agg #[a1,a2,a3,a4],.agg #[b1,b2,b3,b4],.bool false,.bool true,.agg #[e1,e2,e3,e4],.agg #[a1,a2,a3,a4],.agg #[b1,b2,b3,b4],.agg #[m1,m2,m3,m4],.agg #[s1,s2,s3,s4]],[]⟩ V:=by
  intro V hV m1 m2 m3 m4 s1 s2 s3 s4 hQ;refine up ?_;refine rdy1 (i:=5) (by kernel_rfl) rfl (by rfl) (fun K hK=>?_);have hr:=hT.to hV;refine op_storeq (k:=0) (e:=⟨s1,s2,s3,s4⟩) (by rfl) (by rfl) hr (by simp) hQ.fq ?_;refine hK.out _ _ trivial ?_;clear hK K
  have FIN:Hid (∀v,DotR w tot (t+r*s) (.returned v) (V.setRow tot (flat ([⟨e1,e2,e3,e4⟩].set 0 ⟨s1,s2,s3,s4⟩)).toArray)):=fun v=>by
   have h1:=hr.app (n:=0) (e:=⟨s1,s2,s3,s4⟩) hQ.fq;have kw:Kw V (V.setRow tot (flat ([⟨e1,e2,e3,e4⟩].set 0 ⟨s1,s2,s3,s4⟩)).toArray):=hr.kw;have h2:=Bxb hbw hV;exact ⟨⟨_,rfl⟩,⟨s1,s2,s3,s4⟩,h1,kw.qc hQ,by rw[setRow_size];exact h2.size,fun j hj hne=>(setRow_other _ _ _ _ hne).trans (h2.block j hj),fun B hB=>below_setRow (h2.mono (by omega)) hB _⟩
  clear hr hQ;refine wpAnyH_done (by kernel_rfl) ?_ _
  show NoPanic _ _ _ _
  go_wp2
  refine bodyPost_ret (results_none rfl _ _ _) rfl ?_;exact FIN.out _
 have D0123:∀(V:World) (hV:Below W1.heap.size W1 V) (m1 m2 m3 m4:Value) (hQ:Qc V m1 m2 m3 m4 (r*s)),G 2 #[true,true,true,true,false,false] ⟨#[.agg #[a1,a2,a3,a4],.agg #[b1,b2,b3,b4],.pointer (some ⟨tot,0,none⟩),.pointer (some ⟨w.heap.size,0,none⟩),.pointer (some ⟨w.heap.size+1,0,none⟩),.agg #[a1,a2,a3,a4],.agg #[b1,b2,b3,b4],.bool false,.bool true,.agg #[e1,e2,e3,e4],.agg #[a1,a2,a3,a4],.agg #[b1,b2,b3,b4],.agg #[m1,m2,m3,m4],undef],[]⟩ V:=by
  intro V hV m1 m2 m3 m4 hQ;refine up ?_;refine rdy1 (i:=4) (by kernel_rfl) rfl (by rfl) (fun K hK=>?_);go_simp
  refine (hS.out V _ _ _ _ _ _ _ _ (qT.to hV) hQ).mono ?_;rintro e U ⟨s1,s2,s3,s4,rfl,hQ2,bb⟩;refine hK.out _ _ trivial ?_;exact dn (D01234 U (Bxb hV bb) m1 m2 m3 m4 s1 s2 s3 s4 hQ2)
 have D012:∀(V:World) (hV:Below W1.heap.size W1 V),G 3 #[true,true,true,false,false,false] ⟨#[.agg #[a1,a2,a3,a4],.agg #[b1,b2,b3,b4],.pointer (some ⟨tot,0,none⟩),.pointer (some ⟨w.heap.size,0,none⟩),.pointer (some ⟨w.heap.size+1,0,none⟩),.agg #[a1,a2,a3,a4],.agg #[b1,b2,b3,b4],.bool false,.bool true,.agg #[e1,e2,e3,e4],.agg #[a1,a2,a3,a4],.agg #[b1,b2,b3,b4],undef,undef],[]⟩ V:=by
  intro V hV;refine up ?_;refine rdy1 (i:=3) (by kernel_rfl) rfl (by rfl) (fun K hK=>?_);go_simp
  refine (hM.out V (hA.to hV) (hB.to hV)).mono ?_;rintro e U ⟨m1,m2,m3,m4,rfl,hQ,bb⟩;refine hK.out _ _ trivial ?_;exact dn (D0123 U (Bxb hV bb) m1 m2 m3 m4 hQ)
 have D123:∀(V:World) (hV:Below W1.heap.size W1 V) (m1 m2 m3 m4:Value) (hQ:Qc V m1 m2 m3 m4 (r*s)),G 3 #[false,true,true,true,false,false] ⟨#[.agg #[a1,a2,a3,a4],.agg #[b1,b2,b3,b4],.pointer (some ⟨tot,0,none⟩),.pointer (some ⟨w.heap.size,0,none⟩),.pointer (some ⟨w.heap.size+1,0,none⟩),.agg #[a1,a2,a3,a4],.agg #[b1,b2,b3,b4],.bool false,.bool true,undef,.agg #[a1,a2,a3,a4],.agg #[b1,b2,b3,b4],.agg #[m1,m2,m3,m4],undef],[]⟩ V:=by
  intro V hV m1 m2 m3 m4 hQ;refine up ?_;refine rdy1 (i:=0) (by kernel_rfl) rfl (by rfl) (fun K hK=>?_);have cc:=(hT.to hV).four;have c0:=cc.c0;have c1:=cc.c1;have c2:=cc.c2;have c3:=cc.c3;go_simp
  refine hK.out _ _ trivial ?_;exact dn (D0123 V hV m1 m2 m3 m4 hQ)
 have D01:∀(V:World) (hV:Below W1.heap.size W1 V),G 4 #[true,true,false,false,false,false] ⟨#[.agg #[a1,a2,a3,a4],.agg #[b1,b2,b3,b4],.pointer (some ⟨tot,0,none⟩),.pointer (some ⟨w.heap.size,0,none⟩),.pointer (some ⟨w.heap.size+1,0,none⟩),.agg #[a1,a2,a3,a4],.agg #[b1,b2,b3,b4],.bool false,.bool true,.agg #[e1,e2,e3,e4],.agg #[a1,a2,a3,a4],undef,undef,undef],[]⟩ V:=by
  intro V hV;refine up ?_;refine rdy1 (i:=2) (by kernel_rfl) rfl (by rfl) (fun K hK=>?_);have cc:=tB.to hV;have c0:=cc.c0;have c1:=cc.c1;have c2:=cc.c2;have c3:=cc.c3;go_simp
  refine hK.out _ _ trivial ?_;exact dn (D012 V hV)
 have D02:∀(V:World) (hV:Below W1.heap.size W1 V),G 4 #[true,false,true,false,false,false] ⟨#[.agg #[a1,a2,a3,a4],.agg #[b1,b2,b3,b4],.pointer (some ⟨tot,0,none⟩),.pointer (some ⟨w.heap.size,0,none⟩),.pointer (some ⟨w.heap.size+1,0,none⟩),.agg #[a1,a2,a3,a4],.agg #[b1,b2,b3,b4],.bool false,.bool true,.agg #[e1,e2,e3,e4],undef,.agg #[b1,b2,b3,b4],undef,undef],[]⟩ V:=by
  intro V hV;refine up ?_;refine rdy1 (i:=1) (by kernel_rfl) rfl (by rfl) (fun K hK=>?_);have cc:=tA.to hV;have c0:=cc.c0;have c1:=cc.c1;have c2:=cc.c2;have c3:=cc.c3;go_simp
  refine hK.out _ _ trivial ?_;exact dn (D012 V hV)
 have D12:∀(V:World) (hV:Below W1.heap.size W1 V),G 4 #[false,true,true,false,false,false] ⟨#[.agg #[a1,a2,a3,a4],.agg #[b1,b2,b3,b4],.pointer (some ⟨tot,0,none⟩),.pointer (some ⟨w.heap.size,0,none⟩),.pointer (some ⟨w.heap.size+1,0,none⟩),.agg #[a1,a2,a3,a4],.agg #[b1,b2,b3,b4],.bool false,.bool true,undef,.agg #[a1,a2,a3,a4],.agg #[b1,b2,b3,b4],undef,undef],[]⟩ V:=by
  intro V hV;refine up ?_;refine wpAnyH_ready (rs:=[0,3]) (by kernel_rfl) (by simp) (ready_cons rfl (by rfl) (fun K hK=>?_) (ready_cons rfl (by rfl) (fun K hK=>?_) AllReadyH.nil))
  .have cc:=(hT.to hV).four;have c0:=cc.c0;have c1:=cc.c1;have c2:=cc.c2;have c3:=cc.c3;go_simp
   refine hK.out _ _ trivial ?_;exact dn (D012 V hV)
  .go_simp
   refine (hM.out V (hA.to hV) (hB.to hV)).mono ?_;rintro e U ⟨m1,m2,m3,m4,rfl,hQ,bb⟩;refine hK.out _ _ trivial ?_;exact dn (D123 U (Bxb hV bb) m1 m2 m3 m4 hQ)
 have D0:∀(V:World) (hV:Below W1.heap.size W1 V),G 5 #[true,false,false,false,false,false] ⟨#[.agg #[a1,a2,a3,a4],.agg #[b1,b2,b3,b4],.pointer (some ⟨tot,0,none⟩),.pointer (some ⟨w.heap.size,0,none⟩),.pointer (some ⟨w.heap.size+1,0,none⟩),.agg #[a1,a2,a3,a4],.agg #[b1,b2,b3,b4],.bool false,.bool true,.agg #[e1,e2,e3,e4],undef,undef,undef,undef],[]⟩ V:=by
  intro V hV;refine up ?_;refine wpAnyH_ready (rs:=[1,2]) (by kernel_rfl) (by simp) (ready_cons rfl (by rfl) (fun K hK=>?_) (ready_cons rfl (by rfl) (fun K hK=>?_) AllReadyH.nil))
  .have cc:=tA.to hV;have c0:=cc.c0;have c1:=cc.c1;have c2:=cc.c2;have c3:=cc.c3;go_simp
   refine hK.out _ _ trivial ?_;exact dn (D01 V hV)
  .have cc:=tB.to hV;have c0:=cc.c0;have c1:=cc.c1;have c2:=cc.c2;have c3:=cc.c3;go_simp
   refine hK.out _ _ trivial ?_;exact dn (D02 V hV)
 have D1:∀(V:World) (hV:Below W1.heap.size W1 V),G 5 #[false,true,false,false,false,false] ⟨#[.agg #[a1,a2,a3,a4],.agg #[b1,b2,b3,b4],.pointer (some ⟨tot,0,none⟩),.pointer (some ⟨w.heap.size,0,none⟩),.pointer (some ⟨w.heap.size+1,0,none⟩),.agg #[a1,a2,a3,a4],.agg #[b1,b2,b3,b4],.bool false,.bool true,undef,.agg #[a1,a2,a3,a4],undef,undef,undef],[]⟩ V:=by
  intro V hV;refine up ?_;refine wpAnyH_ready (rs:=[0,2]) (by kernel_rfl) (by simp) (ready_cons rfl (by rfl) (fun K hK=>?_) (ready_cons rfl (by rfl) (fun K hK=>?_) AllReadyH.nil))
  .have cc:=(hT.to hV).four;have c0:=cc.c0;have c1:=cc.c1;have c2:=cc.c2;have c3:=cc.c3;go_simp
   refine hK.out _ _ trivial ?_;exact dn (D01 V hV)
  .have cc:=tB.to hV;have c0:=cc.c0;have c1:=cc.c1;have c2:=cc.c2;have c3:=cc.c3;go_simp
   refine hK.out _ _ trivial ?_;exact dn (D12 V hV)
 have D2:∀(V:World) (hV:Below W1.heap.size W1 V),G 5 #[false,false,true,false,false,false] ⟨#[.agg #[a1,a2,a3,a4],.agg #[b1,b2,b3,b4],.pointer (some ⟨tot,0,none⟩),.pointer (some ⟨w.heap.size,0,none⟩),.pointer (some ⟨w.heap.size+1,0,none⟩),.agg #[a1,a2,a3,a4],.agg #[b1,b2,b3,b4],.bool false,.bool true,undef,undef,.agg #[b1,b2,b3,b4],undef,undef],[]⟩ V:=by
  intro V hV;refine up ?_;refine wpAnyH_ready (rs:=[0,1]) (by kernel_rfl) (by simp) (ready_cons rfl (by rfl) (fun K hK=>?_) (ready_cons rfl (by rfl) (fun K hK=>?_) AllReadyH.nil))
  .have cc:=(hT.to hV).four;have c0:=cc.c0;have c1:=cc.c1;have c2:=cc.c2;have c3:=cc.c3;go_simp
   refine hK.out _ _ trivial ?_;exact dn (D02 V hV)
  .have cc:=tA.to hV;have c0:=cc.c0;have c1:=cc.c1;have c2:=cc.c2;have c3:=cc.c3;go_simp
   refine hK.out _ _ trivial ?_;exact dn (D12 V hV)
 have D:∀(V:World) (hV:Below W1.heap.size W1 V),G 6 #[false,false,false,false,false,false] ⟨#[.agg #[a1,a2,a3,a4],.agg #[b1,b2,b3,b4],.pointer (some ⟨tot,0,none⟩),.pointer (some ⟨w.heap.size,0,none⟩),.pointer (some ⟨w.heap.size+1,0,none⟩),.agg #[a1,a2,a3,a4],.agg #[b1,b2,b3,b4],.bool false,.bool true,undef,undef,undef,undef,undef],[]⟩ V:=by
  intro V hV;refine up ?_;refine wpAnyH_ready (rs:=[0,1,2]) (by kernel_rfl) (by simp) (ready_cons rfl (by rfl) (fun K hK=>?_) (ready_cons rfl (by rfl) (fun K hK=>?_) (ready_cons rfl (by rfl) (fun K hK=>?_) AllReadyH.nil)))
  .have cc:=(hT.to hV).four;have c0:=cc.c0;have c1:=cc.c1;have c2:=cc.c2;have c3:=cc.c3;go_simp
   refine hK.out _ _ trivial ?_;exact dn (D0 V hV)
  .have cc:=tA.to hV;have c0:=cc.c0;have c1:=cc.c1;have c2:=cc.c2;have c3:=cc.c3;go_simp
   refine hK.out _ _ trivial ?_;exact dn (D1 V hV)
  .have cc:=tB.to hV;have c0:=cc.c0;have c1:=cc.c1;have c2:=cc.c2;have c3:=cc.c3;go_simp
   refine hK.out _ _ trivial ?_;exact dn (D2 V hV)
 exact D _ (Below.refl _ _).drew
theorem dot1_v {w:World}{a1 a2 a3 a4 b1 b2 b3 b4:Value}{r s t:Rat}{k l m tot:Nat}{E:E4}(hT:Row w tot [E])(qT:Qc w E.a E.b E.c E.d t)(hA:Qi w a1 a2 a3 a4 r k)(hB:Qi w b1 b2 b3 b4 s l)(mT:Qm m t)(hk:0<k)(hl:0<l)(hkl:k+l+1<=10000)(hm:m+(k+l)+1<=10000) :
  Calls Tryz.prog 88 #[.agg #[a1,a2,a3,a4],.agg #[b1,b2,b3,b4],.pointer (some ⟨tot,0,none⟩)] w (DotR w tot (t+r*s)):=by
 by_cases h0:r=0∨s=0
 .exact dot1_z (m:=m) hT qT hA hB h0
 .exact dot1_n hT qT hA hB h0 mT hk hl hkl hm
def scaleQ (t:Rat)(rs:List Rat):List Rat:=ptw (fun r s=>t*r+s) rs []
structure Vm (k:Nat)(rs:List Rat):Prop where
 qm:∀i,Qm k (rs.getD i 0)
 len:rs.length<=20
theorem zero_flat (m:Nat):Builtin.zeroCells (.agg #[.bool false,.slice none 0 0,.bool false,.slice none 0 0]:Value).cells m=(flat (List.replicate m E4.z)).toArray:=by
 rw[flat_zero];rfl
def TotV (W:World)(v:Value)(n:Nat)(f:Nat->Rat)(B:Nat):Prop :=
 (n=0/\v=.slice none 0 0)∨∃g cap fl,v=.slice (some ⟨g,0,none⟩) n cap/\B<=g/\Row W g fl/\fl.length=cap/\n<=cap/\cap<=9223372036854775807 /\
  (∀i,i<n->Qc W (fl.getD i E4.z).a (fl.getD i E4.z).b (fl.getD i E4.z).c (fl.getD i E4.z).d (f i))/\∀i,n<=i->fl.getD i E4.z=E4.z
theorem TotV.to {W V:World}{v:Value}{n:Nat}{f:Nat->Rat}{B:Nat}(h:TotV W v n f B)(hb:Below W.heap.size W V):TotV V v n f B:=by
 rcases h with h|⟨g,cap,fl,h1,h2,h3,h4,h5,h6,h7,h8⟩
 .exact .inl h
 .exact .inr ⟨g,cap,fl,h1,h2,h3.to hb,h4,h5,h6,fun i hi=>(h7 i hi).to hb,h8⟩
theorem TotV.congr {W:World}{v:Value}{n:Nat}{f f':Nat->Rat}{B:Nat}(h:TotV W v n f B)(hf:∀i,i<n->f i=f' i):TotV W v n f' B:=by
 rcases h with h|⟨g,cap,fl,h1,h2,h3,h4,h5,h6,h7,h8⟩
 .exact .inl h
 .exact .inr ⟨g,cap,fl,h1,h2,h3,h4,h5,h6,fun i hi=>by rw[<-hf i hi];exact h7 i hi,h8⟩
theorem qc_z (W:World):Qc W E4.z.a E4.z.b E4.z.c E4.z.d 0:=⟨Zc.zero _,Zc.zero _⟩
def TotP (P:World->Nat->E4->Prop)(W:World)(v:Value)(n:Nat)(B:Nat):Prop :=
 (n=0/\v=.slice none 0 0)∨∃g cap fl,v=.slice (some ⟨g,0,none⟩) n cap/\B<=g/\Row W g fl/\fl.length=cap/\n<=cap/\cap<=9223372036854775807 /\
  (∀i,i<n->P W i (fl.getD i E4.z))/\∀i,n<=i->fl.getD i E4.z=E4.z
theorem tot_rowp {P:World->Nat->E4->Prop}{W:World}{g B n:Nat}{fl:List E4}(hg:B<=g)(h:Row W g fl)(hn:n<=fl.length)(hc:fl.length<=9223372036854775807)
  (hq:∀i,i<n->P W i (fl.getD i E4.z)) (hz:∀i,n<=i->fl.getD i E4.z=E4.z):TotP P W (.slice (some ⟨g,0,none⟩) n fl.length) n B :=
 .inr ⟨g,fl.length,fl,rfl,hg,h,rfl,hn,hc,hq,hz⟩
theorem grown_row {W:World}{n C:Nat}{es:List E4}{e:E4}(he:e.fq)(hes:∀x∈es,x.fq)(hl:es.length=n)(hC:n+1<=C) :
  (flat (es++e::List.replicate (C-(n+1)) E4.z)).toArray=((flat es++[e.a,e.b,e.c,e.d]).toArray++Builtin.zeroCells (.agg #[.bool false,.slice none 0 0,.bool false,.slice none 0 0]:Value).cells (C-(n+1))) /\
  Row (W.alloc (.cells (flat (es++e::List.replicate (C-(n+1)) E4.z)).toArray 32)) W.heap.size (es++e::List.replicate (C-(n+1)) E4.z)/\(es++e::List.replicate (C-(n+1)) E4.z).length=C:=by
 refine ⟨?_,⟨World.alloc_heap_new W _,fun x hx=>?_⟩,by simp;omega⟩
 .rw[zero_flat,flat_app];apply Array.ext';simp[flat]
 .rcases List.mem_append.1 hx with hx|hx
  .exact hes x hx
  .rcases List.mem_cons.1 hx with rfl|hx
   .exact he
   .rw[List.eq_of_mem_replicate hx];exact E4.z_fq
theorem papp {P:World->Nat->E4->Prop}(hP:∀{W V:World} {i:Nat} {e:E4},Kw W V->P W i e->P V i e){W:World}{v:Value}{n:Nat}{B:Nat}(h:TotP P W v n B)(hB:B<=W.heap.size)(hl:n+1<=1000000){e:E4}(he:e.fq)(hq:P W n e){a:Addr}{c:Nat}
  (h0:W.cell? (a.add 0)=some e.a) (h1:W.cell? (a.add 1)=some e.b) (h2:W.cell? (a.add 2)=some e.c) (h3:W.cell? (a.add 3)=some e.d) (ty:TypeId) :
  ∃v' W',(Builtin.append_ #[38,38] ty #[v,.slice (some a) 1 c]).run Tryz.prog W=.ok v' W'/\TotP P W' v' (n+1) B/\Below B W W':=by
 obtain ⟨i0,hi,hz0,hz1,hz2⟩:=info_parts infoQ
 have hnews:∀j u,[e.a,e.b,e.c,e.d][j]?=some u->W.cell? (a.add j)=some u:=fun j u hj=>by
  match j,hj with
  | 0,hj=>simp at hj;subst hj;exact h0
  | 1,hj=>simp at hj;subst hj;exact h1
  | 2,hj=>simp at hj;subst hj;exact h2
  | 3,hj=>simp at hj;subst hj;exact h3
 have last:∀(es:List E4) (k:Nat),es.length=n->∀i,n+1<=i->(es++e::List.replicate k E4.z).getD i E4.z=E4.z:=fun es k hes i hi=>by
  rw[show es++e::List.replicate k E4.z=(es++[e])++List.replicate k E4.z from by simp];simp only[List.getD,List.getElem?_append,List.length_append,List.length_cons,List.length_nil,hes,Nat.zero_add,show ¬i<n+1 by omega,if_false,List.getElem?_replicate]
  split<;>rfl
 have here:∀(es:List E4) (k:Nat),es.length=n->(es++e::List.replicate k E4.z).getD n E4.z=e:=fun es k hes=>by
  simp[List.getD,List.getElem?_append,hes]
 rcases h with ⟨rfl,rfl⟩|⟨g,cap,fl,rfl,hg,hr,rfl,hn,hc,hqs,hz⟩
 .have hrun:=run_append_nil (P:=Tryz.prog) (w:=W) 38 ty 32 i0 _ Tryz.underlying38 hi hz0 a 1 c [e.a,e.b,e.c,e.d] (by rw[hz1];rfl) hnews (by decide) (by decide) (by rw[hz2];decide);have hge:=grownCap_ge W 1 0 32;have hle:=grownCap_le_maxLen W 1 0 32 (by unfold maxLen;omega);unfold maxLen at hle;obtain ⟨C,hC⟩:∃C,grownCap W 1 0 32=C:=⟨_,rfl⟩
  rw[hC]at hrun hge hle;obtain ⟨g1,g2,g3⟩:=grown_row (W:=W.drew) (n:=0) (C:=C) (es:=[]) he (fun x hx=>by cases hx) rfl hge
  have hrun':(Builtin.append_ #[38,38] ty #[.slice none 0 0,.slice (some a) 1 c]).run Tryz.prog W=.ok (.slice (some ⟨W.heap.size,0,none⟩) 1 C) (W.drew.alloc (.cells (flat ([]++e::List.replicate (C-(0+1)) E4.z)).toArray 32)):=by
   rw[g1];exact hrun
  have hbb:Below W.heap.size W (W.drew.alloc (.cells (flat ([]++e::List.replicate (C-(0+1)) E4.z)).toArray 32)):=((Below.refl _ W).drew).alloc (Nat.le_refl _) _;refine ⟨_,_,hrun',?_,hbb.mono hB⟩
  have ht:=tot_rowp (P:=P) (n:=1) (B:=B) (g:=W.heap.size) hB g2 (by rw[g3];exact hge) (by rw[g3];omega) (fun i hi=>by
   obtain rfl:i=0:=by omega
   rw[here [] _ rfl]
   exact hP (Kw.of hbb) hq) (fun i hi=>last [] _ rfl i hi)
  rw[g3]at ht;exact ht
 .by_cases hroom:n<fl.length
  .refine ⟨_,_,append_q hr hroom he h0 h1 h2 h3 (c:=c) ty,?_,below_setRow (Below.refl _ _) hg _⟩;have kw:Kw W (W.setRow g (flat (fl.set n e)).toArray):=hr.kw
   have ht:=tot_rowp (P:=P) (n:=n+1) (B:=B) hg (hr.app (n:=n) he) (by rw[List.length_set];omega) (by rw[List.length_set];exact hc) (fun i hi=>by
    by_cases hin:i=n
    .subst hin;rw[show (fl.set i e).getD i E4.z=e from by simp[List.getD,hroom]];exact hP kw hq
    .rw[show (fl.set n e).getD i E4.z=fl.getD i E4.z from by simp[List.getD,List.getElem?_set,Ne.symm hin]]
     exact hP kw (hqs i (by omega))) (fun i hi=>by
    rw[show (fl.set n e).getD i E4.z=fl.getD i E4.z from by simp[List.getD,List.getElem?_set,show n≠i by omega]]
    exact hz i (by omega))
   rwa [List.length_set]at ht
  .obtain rfl:n=fl.length:=by omega
   have holds:∀j u,(flat fl)[j]?=some u->W.cell? ((⟨g,0,none⟩:Addr).add j)=some u:=fun j u hj=>by
    unfold Addr.add
    by_cases hj0:j=0
    .subst hj0;simpa [World.cell?,hr.heap]using hj
    .simpa [hj0,World.cell?,hr.heap]using hj
   have hrun:=run_append_grow (P:=Tryz.prog) (w:=W) 38 ty 32 i0 _ Tryz.underlying38 hi hz0 ⟨g,0,none⟩ fl.length fl.length (flat fl) (by rw[hz1,flat_length]) holds a 1 c [e.a,e.b,e.c,e.d] (by rw[hz1];rfl) hnews (by omega) (by omega)
    (by rw[hz2];exact growslice_fits (by omega) (by omega))
   have hge:=grownCap_ge W (fl.length+1) fl.length 32;have hle:=grownCap_le_maxLen W (fl.length+1) fl.length 32 (by unfold maxLen;omega);unfold maxLen at hle;obtain ⟨C,hC⟩:∃C,grownCap W (fl.length+1) fl.length 32=C:=⟨_,rfl⟩
   rw[hC]at hrun hge hle;obtain ⟨g1,g2,g3⟩:=grown_row (W:=W.drew) (n:=fl.length) (C:=C) (es:=fl) he hr.fq rfl hge
   have hrun':(Builtin.append_ #[38,38] ty #[.slice (some ⟨g,0,none⟩) fl.length fl.length,.slice (some a) 1 c]).run Tryz.prog W=.ok (.slice (some ⟨W.heap.size,0,none⟩) (fl.length+1) C) (W.drew.alloc (.cells (flat (fl++e::List.replicate (C-(fl.length+1)) E4.z)).toArray 32)):=by
    rw[g1,show (flat fl++[e.a,e.b,e.c,e.d]).toArray=(flat fl).toArray++[e.a,e.b,e.c,e.d].toArray from by simp];exact hrun
   have hbb:Below W.heap.size W (W.drew.alloc (.cells (flat (fl++e::List.replicate (C-(fl.length+1)) E4.z)).toArray 32)):=((Below.refl _ W).drew).alloc (Nat.le_refl _) _;refine ⟨_,_,hrun',?_,hbb.mono hB⟩
   have ht:=tot_rowp (P:=P) (n:=fl.length+1) (B:=B) (g:=W.heap.size) hB g2 (by rw[g3];exact hge) (by rw[g3];omega) (fun i hi=>by
    by_cases hin:i=fl.length
    .subst hin;rw[here fl _ rfl];exact hP (Kw.of hbb) hq
    .rw[show (fl++e::List.replicate (C-(fl.length+1)) E4.z).getD i E4.z=fl.getD i E4.z from by simp[List.getD,List.getElem?_append,show i<fl.length by omega]]
     exact hP (Kw.of hbb) (hqs i (by omega))) (fun i hi=>last fl _ rfl i hi)
   rw[g3]at ht;exact ht
theorem qapp {W:World}{v:Value}{n:Nat}{f:Nat->Rat}{B:Nat}(h:TotV W v n f B)(hB:B<=W.heap.size)(hl:n+1<=1000000){e:E4}(he:e.fq)(hq:Qc W e.a e.b e.c e.d (f n)){a:Addr}{c:Nat}
  (h0:W.cell? (a.add 0)=some e.a) (h1:W.cell? (a.add 1)=some e.b) (h2:W.cell? (a.add 2)=some e.c) (h3:W.cell? (a.add 3)=some e.d) (ty:TypeId) :
  ∃v' W',(Builtin.append_ #[38,38] ty #[v,.slice (some a) 1 c]).run Tryz.prog W=.ok v' W'/\TotV W' v' (n+1) f B/\Below B W W' :=
 papp (P:=fun W i e=>Qc W e.a e.b e.c e.d (f i)) (fun k h=>k.qc h) h hB hl he hq h0 h1 h2 h3 ty
attribute [local go_sem] Oper.semAt_some
def sumF (f:Nat->Rat):Nat->Rat
 | 0=>0
 | k+1=>sumF f k+f k
theorem Qm.zero {k:Nat}(hk:0<k):Qm k 0:=⟨Nat.pow_pos (by decide),Sm.one hk⟩
theorem Qm.sumF {f:Nat->Rat}{P:Nat}(hf:∀i,Qm P (f i)):∀k,Qm (k*(P+1)+1) (sumF f k)
 | 0=>Qm.zero (by omega)
 | k+1=>by
  have h:=(Qm.sumF hf k).add (hf k);exact h.mono (by rw[Nat.add_mul];omega)
def TotI (W:World)(g:Nat)(t:Rat):Prop:=∃E,Row W g [E]/\Qc W E.a E.b E.c E.d t
theorem TotI.to {W V:World}{g:Nat}{t:Rat}(h:TotI W g t)(hb:Below W.heap.size W V):TotI V g t:=by
 obtain ⟨E,h1,h2⟩:=h;exact ⟨E,h1.to hb,h2.to hb⟩
theorem TotI.grown {W V:World}{g:Nat}{t:Rat}{row:Option Nat}(h:TotI W g t)(hg:W.grownBy V row)(hr:∀r,row=some r->∃o:Obj,W.heap[r]?=some o/\o.isCells=false):TotI V g t:=by
 obtain ⟨E,h1,h2⟩:=h;exact ⟨E,h1.grown hg hr,(Kw.grown hg hr).qc h2⟩
theorem dot_f {f:Nat->Rat}{A A':Option Addr}{c c':Nat}{es fs:List E4}{w:World}(hx:Rq w w.heap.size A es)(hy:Rq w w.heap.size A' fs)(qx:∀e∈es,e.fq)(qy:∀e∈fs,e.fq)
  (hx63:es.length<=4398046511104) (hy63:fs.length<=4398046511104)
  (hF:∀(V:World) (E:E4),Below w.heap.size w V->Row V (w.heap.size+1) [E]->∀i,i<max es.length fs.length->Qc V E.a E.b E.c E.d (sumF f i)->Calls Tryz.prog 88 #[(es.getD i E4.z).v,(fs.getD i E4.z).v,.pointer (some ⟨w.heap.size+1,0,none⟩)] V (DotR V (w.heap.size+1) (sumF f (i+1)))) :
  Calls Tryz.prog 46 #[.slice A es.length c,.slice A' fs.length c'] w (QR w (sumF f (max es.length fs.length))):=by
 have HF:=Hd hF;have HX63:=Hd hx63;have HY63:=Hd hy63;have RX:=Hd hx;have RY:=Hd hy;have QX:=Hd qx;have QY:=Hd qy;clear hF hx hy qx qy;refine (callsIn_wide (n:=3)).1 ?_;refine callsIn_of_wp_marks Tryz.func46 rfl trivial ?_ rfl;simp only[Tryz.ntmps46,List.size_toArray,List.length_cons,List.length_nil,Nat.reduceAdd,Nat.reduceSub,Array.replicate_succ,Array.replicate_zero,List.push_toArray,List.append_toArray,List.nil_append,List.cons_append]
 gi_wp2_with (first
  | (refine ⟨trivial,?_⟩;gi_at_call 92;refine (callsIn_wide.2 (vpairs_any _ _ _ _ _ _ _)).mono ?_;rintro e w' ⟨rfl,rfl⟩))
 obtain ⟨W0,hW0⟩:∃W0,W0=((((w.alloc (.cells #[.bool false,.slice none 0 0,.bool false,.slice none 0 0] 32)).alloc (.cells #[.bool false,.slice none 0 0,.bool false,.slice none 0 0] 32)).alloc (.cells #[.func (.func 88) #[] #[.pointer (some ⟨w.heap.size+1,0,none⟩)]] 85)).alloc (.cells #[.slice A es.length c] 38)).alloc (.cells #[.slice A' fs.length c'] 38):=⟨_,rfl⟩
 have hb0:Below w.heap.size w W0:=by rw[hW0];exact (((bRR.alloc (by simp) _).alloc (by simp;omega) _).alloc (by simp;omega) _).alloc (by simp;omega) _
 have hR0:Hp W0 (w.heap.size) (.cells #[.bool false,.slice none 0 0,.bool false,.slice none 0 0] 32 (0,0)):=by
  have h:=Hp.new w #[.bool false,.slice none 0 0,.bool false,.slice none 0 0] 32;rw[hW0];exact ((((h.alloc _).alloc _).alloc _).alloc _)
 have hT0:Hp W0 (w.heap.size+1) (.cells #[.bool false,.slice none 0 0,.bool false,.slice none 0 0] 32 (0,0)):=by
  have h:=Hp.new (w.alloc (.cells #[.bool false,.slice none 0 0,.bool false,.slice none 0 0] 32)) #[.bool false,.slice none 0 0,.bool false,.slice none 0 0] 32;rw[szA]at h;rw[hW0];exact (((h.alloc _).alloc _).alloc _)
 have hC0:Hp W0 (w.heap.size+1+1) (.cells #[.func (.func 88) #[] #[.pointer (some ⟨w.heap.size+1,0,none⟩)]] 85 (0,0)):=by
  have h:=Hp.new ((w.alloc (.cells #[.bool false,.slice none 0 0,.bool false,.slice none 0 0] 32)).alloc (.cells #[.bool false,.slice none 0 0,.bool false,.slice none 0 0] 32)) #[.func (.func 88) #[] #[.pointer (some ⟨w.heap.size+1,0,none⟩)]] 85;rw[szA,szA]at h;rw[hW0];exact ((h.alloc _).alloc _)
 have hx0:Hp W0 (w.heap.size+1+1+1) (.cells #[.slice A es.length c] 38 (0,0)):=by
  have h:=Hp.new (((w.alloc (.cells #[.bool false,.slice none 0 0,.bool false,.slice none 0 0] 32)).alloc (.cells #[.bool false,.slice none 0 0,.bool false,.slice none 0 0] 32)).alloc (.cells #[.func (.func 88) #[] #[.pointer (some ⟨w.heap.size+1,0,none⟩)]] 85)) #[.slice A es.length c] 38;rw[szA,szA,szA]at h;rw[hW0];exact (h.alloc _)
 have hy0:Hp W0 (w.heap.size+1+1+1+1) (.cells #[.slice A' fs.length c'] 38 (0,0)):=by
  have h:=Hp.new ((((w.alloc (.cells #[.bool false,.slice none 0 0,.bool false,.slice none 0 0] 32)).alloc (.cells #[.bool false,.slice none 0 0,.bool false,.slice none 0 0] 32)).alloc (.cells #[.func (.func 88) #[] #[.pointer (some ⟨w.heap.size+1,0,none⟩)]] 85)).alloc (.cells #[.slice A es.length c] 38)) #[.slice A' fs.length c'] 38;rw[szA,szA,szA,szA]at h;rw[hW0];exact h
 have hP0:PairI w (w.heap.size+1+1+1) (.slice A es.length c) (.slice A' fs.length c') W0:=⟨hx0,hy0,hb0⟩
 have hT0:TotI W0 (w.heap.size+1) (sumF f 0):=⟨E4.z,Row.one hT0 Fq.nil,Zc.zero _,Zc.zero _⟩
 have hs0:W0.heap.size=w.heap.size+1+1+1+1+1:=by rw[hW0];simp
 rw[<-hW0];clear hW0 hx0 hy0
 refine wp_roundsB (gf:=115) (lb:=#[.pointer (some ⟨w.heap.size+1+1+1,0,none⟩),.pointer (some ⟨w.heap.size+1+1+1+1,0,none⟩)]) ?hg (enters_of Tryz.func115 (by kernel_rfl) rfl)
  (N:=max es.length fs.length) (enc:=vpairE es fs) (S:=pairS (w.heap.size+1+1+1) (w.heap.size+1+1+1+1) w.heap.size) (pairS_lt (by omega) (by omega) (by omega))
  (fun W hW=>by
   have h:=hP0.to hW
   exact vpairs_gives (w.heap.size+1+1+1) (w.heap.size+1+1+1+1) w.heap.size c c' A A' es fs (by have:=HX63.out;omega) (by have:=HY63.out;omega) W h.bx.one h.by'.one (RX.out.below h.bel) (RY.out.below h.bel) QX.out QY.out)
  ?hps
  (fun k W=>Hp W w.heap.size (.cells #[.bool false,.slice none 0 0,.bool false,.slice none 0 0] 32 (0,0))/\TotI W (w.heap.size+1) (sumF f k)/\Hp W (w.heap.size+1+1) (.cells #[.func (.func 88) #[] #[.pointer (some ⟨w.heap.size+1,0,none⟩)]] 85 (0,0))/\PairI w (w.heap.size+1+1+1) (.slice A es.length c) (.slice A' fs.length c') W)
  (fun k a1 W=>∃p q,a1=⟨#[.slice A es.length c,.slice A' fs.length c',undef,undef,.pointer (some ⟨w.heap.size,0,none⟩),.pointer (some ⟨w.heap.size+1,0,none⟩),.pointer (some ⟨w.heap.size+1+1,0,none⟩),.pointer (some ⟨p,0,none⟩),.pointer (some ⟨q,0,none⟩),.func (.func 88) #[] #[.pointer (some ⟨w.heap.size+1,0,none⟩)],.slice A es.length c,.slice A' fs.length c',.func (.func 115) #[] #[.pointer (some ⟨w.heap.size+1+1+1,0,none⟩),.pointer (some ⟨w.heap.size+1+1+1+1,0,none⟩)],(es.getD k E4.z).v,(fs.getD k E4.z).v,undef,undef,undef,undef,undef],[]⟩/\(Hp W w.heap.size (.cells #[.bool false,.slice none 0 0,.bool false,.slice none 0 0] 32 (0,0))/\TotI W (w.heap.size+1) (sumF f k)/\Hp W (w.heap.size+1+1) (.cells #[.func (.func 88) #[] #[.pointer (some ⟨w.heap.size+1,0,none⟩)]] 85 (0,0))/\PairI w (w.heap.size+1+1+1) (.slice A es.length c) (.slice A' fs.length c') W)/\EHp W p (es.getD k E4.z)/\EHp W q (fs.getD k E4.z))
  (fun _ _ _=>False) ?hI ?hI1 ?hIb ?hIx ⟨hR0,hT0,hC0,hP0⟩ ?assign ?body ?done ?stop
 case hg=>rfl
 case hps=>exact fun _=>rfl
 case hI=>exact fun k W V row h hg hr=>⟨h.1.grown hg (fun r e=>(hr r e).2) rfl,h.2.1.grown hg (fun r e=>(hr r e).2),h.2.2.1.grown hg (fun r e=>(hr r e).2) rfl,h.2.2.2.grown (by omega) hg hr⟩
 case hI1 =>
  rintro ⟨k,a1⟩ W V row ⟨p,q,h1,h2,h3,h4⟩ hg hr;exact ⟨p,q,h1,⟨h2.1.grown hg (fun r e=>(hr r e).2) rfl,h2.2.1.grown hg (fun r e=>(hr r e).2),h2.2.2.1.grown hg (fun r e=>(hr r e).2) rfl,h2.2.2.2.grown (by omega) hg hr⟩,Hp.grown h3 hg (fun r e=>(hr r e).2) rfl,Hp.grown h4 hg (fun r e=>(hr r e).2) rfl⟩
 case hIb=>exact fun k W V h hb=>⟨h.1.to hb,h.2.1.to hb,h.2.2.1.to hb,h.2.2.2.to hb⟩
 case hIx=>exact fun _ _ _ _ _ h _ _=>h
 case assign =>
  intro l k W K hlt hI hk hK;have fx:=fq_getD QX.out k;have fy:=fq_getD QY.out k;have HK:=Hd hK;clear hK;unfold vpairE;generalize es.getD k E4.z=X at HK fx ⊢;generalize fs.getD k E4.z=Y at HK fy ⊢;obtain ⟨x1,x2,x3,x4⟩:=X;obtain ⟨y1,y2,y3,y4⟩:=Y;obtain ⟨⟨n1,A1,j1,m1,e1,e2⟩,⟨n2,A2,j2,m2,e3,e4⟩⟩:=fx;obtain ⟨⟨n3,A3,j3,m3,e5,e6⟩,⟨n4,A4,j4,m4,e7,e8⟩⟩:=fy;dsimp only at e1 e2 e3 e4 e5 e6 e7 e8;subst e1 e2 e3 e4 e5 e6 e7 e8;simp only[E4.v];simp only[E4.v]at HK
  gi_wp2
  have hbb:Below W.heap.size W ((W.alloc (.cells #[.bool n1,.slice A1 j1 m1,.bool n2,.slice A2 j2 m2] 32)).alloc (.cells #[.bool n3,.slice A3 j3 m3,.bool n4,.slice A4 j4 m4] 32)):=bRR.alloc (by simp) _;refine HK.out _ _ hbb ⟨_,_,rfl,⟨hI.1.to hbb,hI.2.1.to hbb,hI.2.2.1.to hbb,hI.2.2.2.to hbb⟩,(Hp.new _ _ _).alloc _,?_⟩;have h:=Hp.new (W.alloc (.cells #[.bool n1,.slice A1 j1 m1,.bool n2,.slice A2 j2 m2] 32)) #[.bool n3,.slice A3 j3 m3,.bool n4,.slice A4 j4 m4] 32;rw[szA]at h;exact h
 case body =>
  rintro l k a1 W hlt ⟨p,q,rfl,⟨hR,hT,hC,hP⟩,hp,hq⟩ hk;have hbW:=hP.bel;have HFK0:=Hd fun (V:World) (hV:Below w.heap.size w V) (E:E4) (hE:Row V (w.heap.size+1) [E]) (qE:Qc V E.a E.b E.c E.d (sumF f k))=>HF.out V E hV hE k hk qE
  obtain ⟨E,hE,qE⟩:=hT;have HFK:=Hd (HFK0.out W hbW E hE qE);clear HFK0;obtain ⟨X,hX⟩:∃X,es.getD k E4.z=X:=⟨_,rfl⟩
  obtain ⟨Y,hY⟩:∃Y,fs.getD k E4.z=Y:=⟨_,rfl⟩
  rw[hX]at hp HFK ⊢;rw[hY]at hq HFK ⊢;clear hX hY;obtain ⟨x1,x2,x3,x4⟩:=X;obtain ⟨y1,y2,y3,y4⟩:=Y;simp only[E4.v]at HFK ⊢;have c0:=(Hp.four hp).c0;have c1:=(Hp.four hp).c1;have c2:=(Hp.four hp).c2;have c3:=(Hp.four hp).c3;have d0:=(Hp.four hq).c0;have d1:=(Hp.four hq).c1;have d2:=(Hp.four hq).c2;have d3:=(Hp.four hq).c3;dsimp only at c0 c1 c2 c3 d0 d1 d2 d3;have HR:=Hd hR;have HC:=Hd hC;have HP:=Hd hP;have cC:=hC.one;have HS:Hid (w.heap.size+1+1+1+1+1<W.heap.size):=by show _<_;omega
  clear hp hq hR hC hP HF hP0 hR0 hT0 hC0 RX RY QX QY hk hE qE
  gi_wp2_with (refine ⟨trivial,?_⟩;gi_at_call 88;refine (CallsIn.inRound l (callsIn_wide.2 HFK.out)).mono ?_;rintro e V ⟨⟨v,rfl⟩,E2,hE2,qE2,hsz,hoth,hbel⟩)
  have hS:=HS.out;refine ⟨⟨hsz,fun j o hB hj _=>(hoth j (Array.getElem?_eq_some_iff.1 hj).1 (by omega)).trans hj⟩,KeepAt.of fun p hp=>hoth _ ?_ ?_,?_,⟨E2,hE2,qE2⟩,?_,?_,?_,?_⟩
  .exact pairS_lt (S:=W.heap.size) (by omega) (by omega) (by omega) p hp
  .rcases hp with rfl|rfl|hp
   .show w.heap.size+1+1+1≠w.heap.size+1;omega
   .show w.heap.size+1+1+1+1≠w.heap.size+1;omega
   .omega
  .exact (hoth _ (by omega) (by omega)).trans HR.out
  .exact (hoth _ (by omega) (by omega)).trans HC.out
  .exact (hoth _ (by omega) (by omega)).trans HP.out.bx
  .exact (hoth _ (by omega) (by omega)).trans HP.out.by'
  .exact HP.out.bel.trans (hbel _ (by omega))
 case done =>
  rintro W ⟨hR,⟨E,hE,qE⟩,hC,hP⟩ hK;rw[hs0]at hK;have r1:=Row.one hR Fq.nil;have hf:E.fq:=hE.fq E (by simp);have hne:(w.heap.size+1+1+1+1+1)≠w.heap.size:=by omega
  have h4:=hE.four;obtain ⟨e1,e2,e3,e4⟩:=E;have c0:=h4.c0;have c1:=h4.c1;have c2:=h4.c2;have c3:=h4.c3;dsimp only at c0 c1 c2 c3;have R1:=Hd r1;have QF:=Hd hf;have hK':=(setRow_other W w.heap.size _ (flat ([⟨e1,e2,e3,e4⟩]:List E4)).toArray hne).trans hK;have h5:Row (W.setRow w.heap.size (flat ([⟨e1,e2,e3,e4⟩]:List E4)).toArray) w.heap.size [⟨e1,e2,e3,e4⟩]:=r1.app (n:=0) (e:=⟨e1,e2,e3,e4⟩) hf;have kw:Kw W (W.setRow w.heap.size (flat ([⟨e1,e2,e3,e4⟩]:List E4)).toArray):=r1.kw;have hgp:=grownBy_putObj' (W.setRow w.heap.size (flat ([⟨e1,e2,e3,e4⟩]:List E4)).toArray) (w.heap.size+1+1+1+1+1) (.deferred none);have hgr:∀r,some (w.heap.size+1+1+1+1+1)=some r->∃o:Obj,(W.setRow w.heap.size (flat ([⟨e1,e2,e3,e4⟩]:List E4)).toArray).heap[r]?=some o/\o.isCells=false:=fun r e=>by cases e;exact ⟨_,hK',rfl⟩
  have H6:=Hd (h5.grown hgp hgr).four
  have HE:Hid (QR w (sumF f (max es.length fs.length)) (.returned (.agg #[e1,e2,e3,e4])) ((W.setRow w.heap.size (flat ([⟨e1,e2,e3,e4⟩]:List E4)).toArray).putObj (w.heap.size+1+1+1+1+1) (.deferred none))) :=
   ⟨e1,e2,e3,e4,rfl,(Kw.grown hgp hgr).qc (kw.qc qE),(below_setRow hP.bel (Nat.le_refl _) _).grown hgp (by rw[setRow_size];exact hP.bel.size) (fun k e=>by cases e;omega)⟩
  have HK':=Hd hK';clear hE hC hP hb0 hP0 hR0 hT0 hC0 qE h4 hK hgp hgr kw h5 hR r1 hK' hf
  gi_wp2_with (refine wpListIn_storeq (k:=0) (e:=⟨e1,e2,e3,e4⟩) rfl (.tmp 4) (.tmp 19) rfl (by rfl) (by rfl) R1.out (by simp) QF.out ?_;clear R1)
  refine ⟨by simp,.inl ⟨_,_,rfl,run_takeDeferred HK'.out,?_⟩⟩;refine ⟨.agg #[e1,e2,e3,e4],?_,HE.out⟩;have u0:=H6.out.c0;have u1:=H6.out.c1;have u2:=H6.out.c2;have u3:=H6.out.c3;simp[results,Tryz.f46,go_sem,u0,u1,u2,u3]
 case stop=>exact fun _ _ _ _ h _=>h.elim
def dotQ (rs ss:List Rat):Rat:=sumF (fun i=>rs.getD i 0*ss.getD i 0) (max rs.length ss.length)
theorem vdot_v {w:World}{A A':Option Addr}{c c':Nat}{es fs:List E4}{rs ss:List Rat}{k l:Nat}(hA:Vi w A c es rs k)(hB:Vi w A' c' fs ss l)(hk:0<k)(hl:0<l)(h1:rs.length<=4398046511104)(h2:ss.length<=4398046511104)
  (hN:(max rs.length ss.length)*(k+l+1)+1+(k+l)+1<=10000) :
  Calls Tryz.prog 46 #[.slice A rs.length c,.slice A' ss.length c'] w (QR w (dotQ rs ss)):=by
 have hm:∀i,Qm (k+l) (rs.getD i 0*ss.getD i 0):=fun i=>((hA.el i).qm hk).mul ((hB.el i).qm hl)
 have h:=dot_f (f:=fun i=>rs.getD i 0*ss.getD i 0) (c:=c) (c':=c') hA.row hB.row hA.fq hB.fq (by rw[hA.len];exact h1) (by rw[hB.len];exact h2) (fun V E hV hE i hi qE=>by
  rw[hA.len,hB.len]at hi;have hi2:i*(k+l+1)<=(max rs.length ss.length)*(k+l+1):=Nat.mul_le_mul_right _ (by omega)
  exact dot1_v hE qE ((hA.el i).to hV) ((hB.el i).to hV) (Qm.sumF hm i) hk hl (by omega) (by omega))
 rw[hA.len,hB.len]at h;exact h
end Go.Proofs.YtglhdielkkhefaaGreat

namespace Go.Proofs.YtglhdielkkhefaaGreat
open Go.RowKit Go.Shelf
def sumV (rs:Nat->List Rat):Nat->List Rat
 | 0=>[]
 | k+1=>ptw (fun r s=>r+s) (sumV rs k) (rs k)
structure SumIn (W:World)(P:Option Addr)(N:Nat)(As:Nat->Option Addr)(cs:Nat->Nat)(es:Nat->List E4)(rs:Nat->List Rat)(m:Nat):Prop where
 cell:∀k,k<N->∃b o,P=some ⟨b,o,none⟩/\W.cell? ⟨b,o+k,none⟩=some (.slice (As k) (rs k).length (cs k))
 vec:∀k,k<N->Vi W (As k) (cs k) (es k) (rs k) m
def midF (S a:Nat->Rat)(j:Nat)(i:Nat):Rat:=if i<j then S i+a i else S i
theorem TotV.sl {W:World}{v:Value}{n:Nat}{f:Nat->Rat}{B:Nat}(h:TotV W v n f B):∃A c,v=.slice A n c:=by
 rcases h with ⟨rfl,rfl⟩|⟨g,cap,fl,rfl,_⟩
 .exact ⟨_,_,rfl⟩
 .exact ⟨_,_,rfl⟩
theorem TotV.row {W:World}{A:Option Addr}{n c:Nat}{f:Nat->Rat}{B:Nat}(h:TotV W (.slice A n c) n f B)(hn:n≠0):∃g fl,A=some ⟨g,0,none⟩/\B<=g/\Row W g fl/\fl.length=c/\n<=c/\c<=9223372036854775807 /\
  (∀i,i<n->Qc W (fl.getD i E4.z).a (fl.getD i E4.z).b (fl.getD i E4.z).c (fl.getD i E4.z).d (f i))/\∀i,n<=i->fl.getD i E4.z=E4.z:=by
 rcases h with ⟨h0,_⟩|⟨g,cap,fl,h1,h2⟩
 .exact absurd h0 hn
 .cases h1;exact ⟨g,fl,rfl,h2⟩
theorem TotV.vr {w W:World}{A:Option Addr}{c:Nat}{rs:List Rat}(h:TotV W (.slice A rs.length c) rs.length (fun i=>rs.getD i 0) w.heap.size)(hl:rs.length<=4398046511104)(hb:Below w.heap.size w W):VR w rs (.returned (.slice A rs.length c)) W:=by
 by_cases h0:rs.length=0
 .obtain rfl:rs=[]:=List.length_eq_zero_iff.1 h0
  rcases h with ⟨_,h⟩|⟨g,cap,fl,h1,h2,h3,h4,h5,h6,h7,h8⟩
  .cases h;exact ⟨none,0,[],rfl,Vc.nil W (by decide),hb⟩
  .cases h1;exact ⟨_,c,[],rfl,Vc.nil W h6,hb⟩
 .obtain ⟨g,fl,rfl,h2,h3,h4,h5,h6,h7,h8⟩:=h.row h0;refine ⟨_,c,fl.take rs.length,rfl,⟨h3.rq _,by rw[List.length_take];omega,fun i=>?_,fun e he=>h3.fq e (List.mem_of_mem_take he),by rw[List.length_take];omega,h6⟩,hb⟩
  by_cases hi:i<rs.length
  .rw[show (fl.take rs.length).getD i E4.z=fl.getD i E4.z from by simp[List.getD,List.getElem?_take,hi]];exact h7 i hi
  .rw[getD_ge (l:=rs) (by omega),getD_ge (l:=fl.take rs.length) (by rw[List.length_take];omega)];exact ⟨Zc.zero _,Zc.zero _⟩
end Go.Proofs.YtglhdielkkhefaaGreat
