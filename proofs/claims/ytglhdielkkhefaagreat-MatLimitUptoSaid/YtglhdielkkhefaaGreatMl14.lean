/- Parts: 16. -/
import Derived.Test.YtglhdielkkhefaaGreatMl1
import Derived.Test.YtglhdielkkhefaaGreatMl3
import Derived.Test.YtglhdielkkhefaaGreatMl5
import Derived.Test.YtglhdielkkhefaaGreatMl7
import Derived.Test.YtglhdielkkhefaaGreatMl13
import Derived.BigQuiet
import Derived.Deep.QuietTactic
import Derived.Laws.MakeOwn
import Derived.Maps.AppendAt
import Derived.WalkMore
set_option linter.unusedVariables false
set_option linter.unusedSimpArgs false
set_option maxRecDepth 100000
set_option maxHeartbeats 40000000

namespace Go.Proofs.YtglhdielkkhefaaGreat
open Go.RowKit Go.Shelf
def sgnQ (r:Rat):Int:=sgn r.num
theorem sgnQ_zero {r:Rat} : sgnQ r=0↔r=0:=by
 unfold sgnQ;rw[sgn_zero,Rat.num_eq_zero]
theorem sgn_divInt {n d:Int}(hd:0<d):sgn (Rat.divInt n d).num=sgn n:=by
 have h1:(Rat.divInt n d).num=0↔n=0:=by
  rw[Rat.num_eq_zero]
  constructor
  .intro h;have:=(Rat.divInt_eq_divInt_iff (n₁:=n) (n₂:=0) (d₁:=d) (d₂:=1) (by omega) (by decide)).1 (by rw[h];rfl);omega
  .rintro rfl;exact Rat.zero_divInt _
 have h2:0<=(Rat.divInt n d).num↔0<=n:=by rw[Rat.num_nonneg,Rat.divInt_nonneg_iff_of_pos_right hd]
 unfold sgn;simp only[h1]
 repeat' split
 all_goals omega
theorem sgn_up (p q:Int):sgnQ (rv p q)=sgn (upN p q):=by
 unfold sgnQ;rw[rv_up,sgn_divInt (upD_pos q)]
theorem sgn_neg_wrap (p:Int):IntKind.i64.wrap (-(sgn p))=sgn (-p):=by
 unfold sgn
 by_cases h0:p=0
 .subst h0;decide
 .by_cases h1:p<0
  .rw[if_neg h0,if_pos h1,if_neg (by omega),if_neg (by omega)];decide
  .rw[if_neg h0,if_neg h1,if_neg (by omega),if_pos (by omega)];decide
theorem add_q {w:World}{a1 a2 a3 a4 b1 b2 b3 b4:Value}{r s:Rat}{k l:Nat}(h1:Qi w a1 a2 a3 a4 r k)(h2:Qi w b1 b2 b3 b4 s l)(hk:0<k)(hl:0<l)(hkl:k+l+1<=10000):Calls Tryz.prog 90 #[.agg #[a1,a2,a3,a4],.agg #[b1,b2,b3,b4]] w (QR w (r+s)):=by
 obtain ⟨W0,hW0⟩:∃W0,W0=((w.alloc (.cells #[a1,a2,a3,a4] 32)).alloc (.cells #[b1,b2,b3,b4] 32)).alloc (.cells #[.bool false,.slice none 0 0,.bool false,.slice none 0 0] 32):=⟨_,rfl⟩
 have hbw:Below w.heap.size w W0:=by rw[hW0];exact (bRR.alloc (by simp) _).alloc (by simp;omega) _
 have tA:Four W0 w.heap.size a1 a2 a3 a4:=by rw[hW0];exact ((Four.new w _ _ _ _ _).alloc _).alloc _
 have tB:Four W0 (w.heap.size+1) b1 b2 b3 b4:=by
  have h:=Four.new (w.alloc (.cells #[a1,a2,a3,a4] 32)) b1 b2 b3 b4 32;rw[szA]at h;rw[hW0];exact h.alloc _
 have tR:Four W0 (w.heap.size+1+1) (.bool false) (.slice none 0 0) (.bool false) (.slice none 0 0):=by
  have h:=Four.new ((w.alloc (.cells #[a1,a2,a3,a4] 32)).alloc (.cells #[b1,b2,b3,b4] 32)) (.bool false) (.slice none 0 0) (.bool false) (.slice none 0 0) 32;rw[szA,szA]at h;rw[hW0];exact h
 have HW0:=Hd hW0;have HC:=Hd (operate_add (h1.to hbw) (h2.to hbw) hk hl hkl);have HB:=Hd hbw;clear h1 h2 hk hl hkl hW0 hbw
 go_enter Tryz.func90,Tryz.ntmps90
 go_wp2_with fail
 rw[<-HW0.out];have k0:=tA.c0;have k1:=tA.c1;have k2:=tA.c2;have k3:=tA.c3;have l0:=tB.c0;have l1:=tB.c1;have l2:=tB.c2;have l3:=tB.c3
 go_wp2_with fail
 refine HC.out.mono ?_;rintro e V1 ⟨x1,x2,x3,x4,rfl,rq,bb⟩;replace tR:=tR.to bb;replace HB:=Hxb HB bb;clear k0 k1 k2 k3 l0 l1 l2 l3 bb tA tB HC HW0;have RQ:=Hd rq;obtain ⟨V9,eV,u,kp⟩:=pack4 tR Fq.nil x1 x2 x3 x4;obtain ⟨⟨n1,A1,l1,m1,rfl,rfl⟩,⟨n2,A2,l2,m2,rfl,rfl⟩⟩:=rq.fq;obtain ⟨v0,v1,v2,v3,v4,v5,v6,v7,_⟩:=tR;have EV:=Hd eV;have KP:=Hd kp;have U:=Hd u;clear eV kp u rq;go_wp2
 rw[EV.out];refine bodyPost_ret (v:=.agg #[.bool n1,.slice A1 l1 m1,.bool n2,.slice A2 l2 m2]) (by simp[results,Tryz.f90,go_sem,U.out.c0,U.out.c1,U.out.c2,U.out.c3]) rfl ?_;exact ⟨_,_,_,_,rfl,RQ.out.k4 KP.out,KP.out.bel _ _ HB.out (by omega)⟩
theorem mul_q {w:World}{a1 a2 a3 a4 b1 b2 b3 b4:Value}{r s:Rat}{k l:Nat}(h1:Qi w a1 a2 a3 a4 r k)(h2:Qi w b1 b2 b3 b4 s l)(hk:0<k)(hl:0<l)(hkl:k+l+1<=10000):Calls Tryz.prog 91 #[.agg #[a1,a2,a3,a4],.agg #[b1,b2,b3,b4]] w (QR w (r*s)):=by
 obtain ⟨W0,hW0⟩:∃W0,W0=((w.alloc (.cells #[a1,a2,a3,a4] 32)).alloc (.cells #[b1,b2,b3,b4] 32)).alloc (.cells #[.bool false,.slice none 0 0,.bool false,.slice none 0 0] 32):=⟨_,rfl⟩
 have hbw:Below w.heap.size w W0:=by rw[hW0];exact (bRR.alloc (by simp) _).alloc (by simp;omega) _
 have tA:Four W0 w.heap.size a1 a2 a3 a4:=by rw[hW0];exact ((Four.new w _ _ _ _ _).alloc _).alloc _
 have tB:Four W0 (w.heap.size+1) b1 b2 b3 b4:=by
  have h:=Four.new (w.alloc (.cells #[a1,a2,a3,a4] 32)) b1 b2 b3 b4 32;rw[szA]at h;rw[hW0];exact h.alloc _
 have tR:Four W0 (w.heap.size+1+1) (.bool false) (.slice none 0 0) (.bool false) (.slice none 0 0):=by
  have h:=Four.new ((w.alloc (.cells #[a1,a2,a3,a4] 32)).alloc (.cells #[b1,b2,b3,b4] 32)) (.bool false) (.slice none 0 0) (.bool false) (.slice none 0 0) 32;rw[szA,szA]at h;rw[hW0];exact h
 have HW0:=Hd hW0;have HC:=Hd (operate_mul (h1.to hbw) (h2.to hbw) hk hl hkl);have HB:=Hd hbw;clear h1 h2 hk hl hkl hW0 hbw
 go_enter Tryz.func91,Tryz.ntmps91
 go_wp2_with fail
 rw[<-HW0.out];have k0:=tA.c0;have k1:=tA.c1;have k2:=tA.c2;have k3:=tA.c3;have l0:=tB.c0;have l1:=tB.c1;have l2:=tB.c2;have l3:=tB.c3
 go_wp2_with fail
 refine HC.out.mono ?_;rintro e V1 ⟨x1,x2,x3,x4,rfl,rq,bb⟩;replace tR:=tR.to bb;replace HB:=Hxb HB bb;clear k0 k1 k2 k3 l0 l1 l2 l3 bb tA tB HC HW0;have RQ:=Hd rq;obtain ⟨V9,eV,u,kp⟩:=pack4 tR Fq.nil x1 x2 x3 x4;obtain ⟨⟨n1,A1,l1,m1,rfl,rfl⟩,⟨n2,A2,l2,m2,rfl,rfl⟩⟩:=rq.fq;obtain ⟨v0,v1,v2,v3,v4,v5,v6,v7,_⟩:=tR;have EV:=Hd eV;have KP:=Hd kp;have U:=Hd u;clear eV kp u rq;go_wp2
 rw[EV.out];refine bodyPost_ret (v:=.agg #[.bool n1,.slice A1 l1 m1,.bool n2,.slice A2 l2 m2]) (by simp[results,Tryz.f91,go_sem,U.out.c0,U.out.c1,U.out.c2,U.out.c3]) rfl ?_;exact ⟨_,_,_,_,rfl,RQ.out.k4 KP.out,KP.out.bel _ _ HB.out (by omega)⟩
theorem sign_q {w:World}{a1 a2 a3 a4:Value}{r:Rat}{k:Nat}(h1:Qi w a1 a2 a3 a4 r k){v:Int}(hv:sgnQ r=v):Calls Tryz.prog 105 #[.agg #[a1,a2,a3,a4]] w fun e w'=>e=.returned (.int .i64 v)/\Below w.heap.size w w':=by
 obtain ⟨p,q,z1,z2,rfl,-,-⟩:=h1;rw[sgn_up]at hv;obtain ⟨W0,hW0⟩:∃W0,W0=w.alloc (.cells #[a1,a2,a3,a4] 32):=⟨_,rfl⟩
 have hbw:Below w.heap.size w W0:=by rw[hW0];exact bRR
 have tA:Four W0 w.heap.size a1 a2 a3 a4:=by rw[hW0];exact Four.new w _ _ _ _ _
 have HW0:=Hd hW0;have hA:=z1.to hbw;have hB:=z2.to hbw;have HB:=Hd hbw;clear z1 z2 hW0 hbw;obtain ⟨sq,esq⟩:∃sq,sgn q=sq:=⟨_,rfl⟩
 obtain ⟨sp,esp⟩:∃sp,sgn p=sp:=⟨_,rfl⟩
 have ESQ:=Hd esq;have ESP:=Hd esp
 by_cases hq:q<0
 .have hlt:sq<0:=by rw[<-esq,sgn_neg hq];decide
  have hw:IntKind.i64.wrap (-sp)=v:=by rw[<-hv,<-esp,sgn_neg_wrap];unfold upN;rw[if_pos hq]
  clear hv esq esp hq
  go_enter Tryz.func105,Tryz.ntmps105
  go_wp2_with fail
  rw[<-HW0.out];have k0:=tA.c0;have k1:=tA.c1;have k2:=tA.c2;have k3:=tA.c3
  go_wp2_with fail
  refine (sign_v hB ESQ.out).mono ?_;rintro e V1 ⟨rfl,bb⟩;replace tA:=tA.to bb;replace hA:=hA.to bb;replace HB:=Hxb HB bb;clear k0 k1 k2 k3 bb hB HW0;have k0:=tA.c0;have k1:=tA.c1;have k2:=tA.c2;have k3:=tA.c3
  go_wp2_with fail
  refine (sign_v hA ESP.out).mono ?_;rintro e V2 ⟨rfl,bb⟩;replace HB:=Hxb HB bb;clear k0 k1 k2 k3 bb hA tA;go_wp2
  go_ret
  exact ⟨rfl,HB.out⟩
 .have hlt:¬sq<0:=by
   rw[<-esq];unfold sgn
   repeat' split
   all_goals omega
  have hw:sp=v:=by rw[<-hv,<-esp];unfold upN;rw[if_neg hq]
  clear hv esq esp hq
  go_enter Tryz.func105,Tryz.ntmps105
  go_wp2_with fail
  rw[<-HW0.out];have k0:=tA.c0;have k1:=tA.c1;have k2:=tA.c2;have k3:=tA.c3
  go_wp2_with fail
  refine (sign_v hB ESQ.out).mono ?_;rintro e V1 ⟨rfl,bb⟩;replace tA:=tA.to bb;replace hA:=hA.to bb;replace HB:=Hxb HB bb;clear k0 k1 k2 k3 bb hB HW0;have k0:=tA.c0;have k1:=tA.c1;have k2:=tA.c2;have k3:=tA.c3
  go_wp2_with fail
  refine (sign_v hA ESP.out).mono ?_;rintro e V2 ⟨rfl,bb⟩;replace HB:=Hxb HB bb;clear k0 k1 k2 k3 bb hA tA;go_wp2
  go_ret
  exact ⟨rfl,HB.out⟩
theorem canonical_q {w:World}{a1 a2 a3 a4:Value}{r:Rat}{k:Nat}(h1:Qi w a1 a2 a3 a4 r k)(hk:k<=10000):Calls Tryz.prog 54 #[.agg #[a1,a2,a3,a4]] w (QR w r):=by
 obtain ⟨p,q,z1,z2,rfl,s1,s2⟩:=h1;exact canonical_z z1 z2 (s1.sg hk) (s2.sg hk)
theorem fromInt_q (n:Int)(n1:-9223372036854775808<=n)(n2:n<=9223372036854775807)(w:World):Calls Tryz.prog 93 #[.int .i64 n] w (QR w (n:Rat)):=by
 obtain ⟨W0,hW0⟩:∃W0,W0=w.alloc (.cells #[.bool false,.slice none 0 0,.bool false,.slice none 0 0] 32):=⟨_,rfl⟩
 have hbw:Below w.heap.size w W0:=by rw[hW0];exact bRR
 have tR:Four W0 w.heap.size (.bool false) (.slice none 0 0) (.bool false) (.slice none 0 0):=by rw[hW0];exact Four.new w _ _ _ _ _
 have HW0:=Hd hW0;have HB:=Hd hbw;have HN:=Hd fun W=>from_z n n1 n2 W
 clear hW0 hbw n1 n2
 go_enter Tryz.func93,Tryz.ntmps93
 go_wp2_with fail
 rw[<-HW0.out];refine (HN.out _).mono ?_;rintro e V1 ⟨x1,x2,rfl,rn,bb⟩;replace tR:=tR.to bb;replace HB:=Hxb HB bb;clear bb HN HW0;have rq:Qc V1 x1 x2 (.bool false) (.slice none 0 0) (n:Rat):=⟨rn,zc_nil _⟩
 have RQ:=Hd rq;obtain ⟨V9,eV,u,kp⟩:=pack4 tR Fq.nil x1 x2 (.bool false) (.slice none 0 0);obtain ⟨n1,A1,l1,m1,rfl,rfl⟩:=rq.fq.1;obtain ⟨v0,v1,v2,v3,v4,v5,v6,v7,_⟩:=tR;have EV:=Hd eV;have KP:=Hd kp;have U:=Hd u;clear eV kp u rq rn;go_wp2
 rw[EV.out];refine bodyPost_ret (v:=.agg #[.bool n1,.slice A1 l1 m1,.bool false,.slice none 0 0]) (by simp[results,Tryz.f93,go_sem,U.out.c0,U.out.c1,U.out.c2,U.out.c3]) rfl ?_;exact ⟨_,_,_,_,rfl,RQ.out.k4 KP.out,KP.out.bel _ _ HB.out (Nat.le_refl _)⟩
def decZ (z:Int):ByteArray:=decS (decide (z<0)) z.natAbs
def New4 (w:World)(N D:Int)(e:Ending)(w':World):Prop:=∃A c A' c',e=.returned (.tuple #[.agg #[.bool (decide (N<0)),.slice A (dig b32 N.natAbs).length c,.bool (decide (D<0)),.slice A' (dig b32 D.natAbs).length c'],.int .i64 0]) /\
 Zc w' (.bool (decide (N<0))) (.slice A (dig b32 N.natAbs).length c) N/\Zc w' (.bool (decide (D<0))) (.slice A' (dig b32 D.natAbs).length c') D/\Below w.heap.size w w'
structure Qb (W:World)(g:Nat)(x1 x2 x3 x4:Value)(r:Rat)(k:Nat):Prop where
 four:Four W g x1 x2 x3 x4
 qi:Qi W x1 x2 x3 x4 r k
def minQ (r s:Rat):Rat:=if r<s then r else s
def maxQ (r s:Rat):Rat:=if s<r then r else s
structure E4 where
 a:Value
 b:Value
 c:Value
 d:Value
def E4.v (e:E4):Value:=.agg #[e.a,e.b,e.c,e.d]
def E4.z : E4:=⟨.bool false,.slice none 0 0,.bool false,.slice none 0 0⟩
def E4.fq (e:E4):Prop:=Fq e.a e.b e.c e.d
theorem E4.z_fq : E4.z.fq:=Fq.nil
def flat : List E4->List Value
 | []=>[]
 | e::r=>e.a::e.b::e.c::e.d::flat r
theorem flat_length : ∀es:List E4,(flat es).length=es.length*4
 | []=>rfl
 | e::r=>by simp only[flat,List.length_cons,flat_length r];omega
theorem flat_app : ∀es fs:List E4,flat (es++fs)=flat es++flat fs
 | [],_=>rfl
 | e::r,fs=>by simp only[flat,List.cons_append,flat_app r fs]
theorem flat_at : ∀(es:List E4) (k:Nat) (h:k<es.length),(flat es)[k*4]?=some es[k].a/\(flat es)[k*4+1]?=some es[k].b/\(flat es)[k*4+2]?=some es[k].c/\(flat es)[k*4+3]?=some es[k].d
 | e::r,0,_=>⟨rfl,rfl,rfl,rfl⟩
 | e::r,k+1,h=>by
  have h1:=flat_at r k (by simpa using h);rw[show (k+1)*4=k*4+4 from by omega];exact h1
theorem flat_take : ∀(es:List E4) (k:Nat),(flat es).take (k*4)=flat (es.take k)
 | [],k=>by simp[flat]
 | e::r,0=>by simp[flat]
 | e::r,k+1=>by
  rw[show (k+1)*4=k*4+1+1+1+1 from by omega];simp only[flat,List.take_succ_cons,flat_take r k]
theorem flat_drop : ∀(es:List E4) (k:Nat),(flat es).drop (k*4)=flat (es.drop k)
 | [],k=>by simp[flat]
 | e::r,0=>by simp[flat]
 | e::r,k+1=>by
  rw[show (k+1)*4=k*4+1+1+1+1 from by omega];simp only[flat,List.drop_succ_cons,flat_drop r k]
theorem flat_mem : ∀(es:List E4),(∀e∈es,e.fq)->∀u∈flat es,∀n:Int,u≠.int .u32 n
 | [],_,u,hu=>by cases hu
 | e::r,h,u,hu=>by
  obtain ⟨⟨n1,A1,k1,c1,e1,e2⟩,⟨n2,A2,k2,c2,e3,e4⟩⟩:=h e (by simp);simp only[flat,List.mem_cons]at hu
  rcases hu with rfl|rfl|rfl|rfl|hu
  .rw[e1];intro n hn;cases hn
  .rw[e2];intro n hn;cases hn
  .rw[e3];intro n hn;cases hn
  .rw[e4];intro n hn;cases hn
  .exact flat_mem r (fun e he=>h e (by simp[he])) u hu
structure Kw (W V:World):Prop where
 size:W.heap.size<=V.heap.size
 word:∀(p:Addr) (n:Int),W.cell? p=some (.int .u32 n)->V.cell? p=some (.int .u32 n)
section
variable {W V U : World}
theorem Kw.refl (W:World):Kw W W:=⟨Nat.le_refl _,fun _ _ h=>h⟩
theorem Kw.trans (h:Kw W V)(k:Kw V U):Kw W U:=⟨Nat.le_trans h.size k.size,fun p n hp=>k.word p n (h.word p n hp)⟩
theorem Kw.of (h:Below W.heap.size W V):Kw W V:=⟨h.size,fun p n hp=>(h.cell (World.block_lt_of_cell? W _ hp)).trans hp⟩
theorem Kw.setCell (h:Kw W V){p:Addr}{u:Value}(hp:V.cell? p=some u)(hu:∀n:Int,u≠.int .u32 n)(v:Value):Kw W (V.setCell p v) :=
 ⟨by simpa [World.setCell]using h.size,fun q n hq=>by
  have h1:=h.word q n hq;rw[World.cell?_setCell_other _ _ _ _ (fun e=>by subst e;rw[hp]at h1;injection h1 with h1;exact hu n h1)]
  exact h1⟩
theorem Kw.rd (k:Kw W V){A:Option Addr}{xs:List Nat}(h:Rd .u32 W W.heap.size A xs):Rd .u32 V V.heap.size A xs:=by
 intro j hj;obtain ⟨b,o,rfl,hb,hc⟩:=h j hj;exact ⟨b,o,rfl,Nat.lt_of_lt_of_le hb k.size,k.word _ _ hc⟩
theorem Kw.zl (k:Kw W V){x y:Value}{z:Int}(h:Zl W x y z):Zl V x y z:=by
 obtain ⟨n,A,c,xs,h1,h2,⟨r1,r2,r3,r4,r5⟩,h4⟩:=h;exact ⟨n,A,c,xs,h1,h2,⟨k.rd r1,r2,r3,r4,r5⟩,h4⟩
theorem Kw.zc (k:Kw W V){x y:Value}{z:Int}(h:Zc W x y z):Zc V x y z:=by
 obtain ⟨A,c,h1,h2,r1,h3⟩:=h;exact ⟨A,c,h1,h2,k.rd r1,h3⟩
theorem Kw.qc (k:Kw W V){a b c d:Value}{r:Rat}(h:Qc W a b c d r):Qc V a b c d r:=⟨k.zc h.1,k.zc h.2⟩
theorem Kw.qi (k:Kw W V){a b c d:Value}{r:Rat}{n:Nat}(h:Qi W a b c d r n):Qi V a b c d r n:=by
 obtain ⟨p,q,h1,h2,h3⟩:=h;exact ⟨p,q,k.zl h1,k.zl h2,h3⟩
end
def Rq (W:World)(B:Nat)(A:Option Addr)(es:List E4):Prop :=
 ∀(k:Nat) (h:k<es.length),∃b o,A=some ⟨b,o,none⟩/\b<B/\W.cell? ⟨b,o+k*4,none⟩=some es[k].a/\W.cell? ⟨b,o+k*4+1,none⟩=some es[k].b/\W.cell? ⟨b,o+k*4+2,none⟩=some es[k].c/\W.cell? ⟨b,o+k*4+3,none⟩=some es[k].d
theorem Rq.nil {W:World}{B:Nat}{A:Option Addr} : Rq W B A []:=fun k hk=>by cases hk
theorem Rq.below {W V:World}{B:Nat}{A:Option Addr}{es:List E4}(h:Rq W B A es)(hb:Below B W V):Rq V B A es:=by
 intro k hk;obtain ⟨b,o,rfl,hB,h0,h1,h2,h3⟩:=h k hk;exact ⟨b,o,rfl,hB,(hb.cell (p:=⟨b,_,none⟩) hB).trans h0,(hb.cell (p:=⟨b,_,none⟩) hB).trans h1,(hb.cell (p:=⟨b,_,none⟩) hB).trans h2,(hb.cell (p:=⟨b,_,none⟩) hB).trans h3⟩
theorem Rq.grow {W V:World}{B:Nat}{A:Option Addr}{es:List E4}(h:Rq W B A es)(hb:Below W.heap.size W V):Rq V B A es:=by
 intro k hk;obtain ⟨b,o,rfl,hB,h0,h1,h2,h3⟩:=h k hk;have hl:b<W.heap.size:=World.block_lt_of_cell? W _ h0;exact ⟨b,o,rfl,hB,(hb.cell (p:=⟨b,_,none⟩) hl).trans h0,(hb.cell (p:=⟨b,_,none⟩) hl).trans h1,(hb.cell (p:=⟨b,_,none⟩) hl).trans h2,(hb.cell (p:=⟨b,_,none⟩) hl).trans h3⟩
theorem Rq.more {W:World}{B B':Nat}{A:Option Addr}{es:List E4}(h:Rq W B A es)(hB:B<=B'):Rq W B' A es:=by
 intro k hk;obtain ⟨b,o,rfl,hb,hc⟩:=h k hk;exact ⟨b,o,rfl,by omega,hc⟩
theorem Rq.to {W V:World}{A:Option Addr}{es:List E4}(h:Rq W W.heap.size A es)(hb:Below W.heap.size W V):Rq V V.heap.size A es:=(h.below hb).more hb.size
structure Row (W:World)(g:Nat)(es:List E4):Prop where
 heap:W.heap[g]?=some (.cells (flat es).toArray 32 (0,0))
 fq:∀e∈es,e.fq
section
variable {W V : World} {g : Nat} {es : List E4}
theorem Row.lt (h:Row W g es):g<W.heap.size:=(Array.getElem?_eq_some_iff.1 h.heap).1
theorem Row.keep (h:Row W g es)(hb:V.heap[g]?=W.heap[g]?):Row V g es:=⟨hb.trans h.heap,h.fq⟩
theorem Row.to (h:Row W g es)(hb:Below W.heap.size W V):Row V g es:=h.keep (hb.block g h.lt)
theorem Row.cells (h:Row W g es){k:Nat}(hk:k<es.length):W.cell? ⟨g,k*4,none⟩=some es[k].a/\W.cell? ⟨g,k*4+1,none⟩=some es[k].b/\W.cell? ⟨g,k*4+2,none⟩=some es[k].c/\W.cell? ⟨g,k*4+3,none⟩=some es[k].d:=by
 have h1:=flat_at es k hk;have e:∀j,W.cell? ⟨g,j,none⟩=(flat es)[j]?:=fun j=>by simp[World.cell?,h.heap]
 rw[e,e,e,e];exact h1
theorem Row.rq (h:Row W g es)(n:Nat):Rq W W.heap.size (some ⟨g,0,none⟩) (es.take n):=by
 intro k hk;have hk':k<es.length:=by simp at hk;omega
 have h1:=h.cells hk';refine ⟨g,0,rfl,h.lt,?_⟩
 simpa using h1
theorem Row.kw (h:Row W g es){cs:Array Value} : Kw W (W.setRow g cs):=by
 refine ⟨by simp[World.setRow],fun p n hp=>?_⟩
 have hne:p.block≠g:=by
  intro e;obtain ⟨b,j,f⟩:=p;obtain rfl:b=g:=e;unfold World.cell? at hp;simp only[h.heap]at hp
  have hm:(Value.int .u32 n)∈flat es:=by
   cases f with
   | none=>simp at hp;exact List.mem_of_getElem? hp
   | some f=>simp at hp
  exact flat_mem es h.fq _ hm n rfl
 rw[World.cell?_of_block (setRow_other W g p.block cs hne)];exact hp
end
end Go.Proofs.YtglhdielkkhefaaGreat

namespace Go.Proofs.YtglhdielkkhefaaGreat
open Go.RowKit Go.Shelf
theorem infoQ : (Tryz.prog.info? 32).map (fun i=>(i.zero,i.size,i.bytes))=some (some (.agg #[.bool false,.slice none 0 0,.bool false,.slice none 0 0]),4,64):=by kernel_rfl
theorem flat_zero : ∀c:Nat,(flat (List.replicate c E4.z)).toArray=madeCells (.agg #[.bool false,.slice none 0 0,.bool false,.slice none 0 0]:Value).cells (c*4):=by
 intro c;apply Array.ext';apply List.ext_getElem?;intro j;unfold madeCells
 by_cases h:j<c*4
 .have hk:j / 4<(List.replicate c E4.z).length:=by simp;omega
  obtain ⟨h0,h1,h2,h3⟩:=flat_at (List.replicate c E4.z) (j / 4) hk;simp only[List.getElem_replicate]at h0 h1 h2 h3;have h4:j % 4<4:=Nat.mod_lt _ (by decide);have h5:j=j / 4*4+j % 4:=by omega
  have hs:((.agg #[.bool false,.slice none 0 0,.bool false,.slice none 0 0]:Value).cells)=#[.bool false,.slice none 0 0,.bool false,.slice none 0 0]:=rfl;rw[hs];simp only[List.size_toArray,List.length_cons,List.length_nil,Nat.reduceAdd,Array.toList_map,Array.toList_range,List.getElem?_map,List.getElem?_range h,Option.map_some];generalize j / 4=q at *;generalize j % 4=m at *;subst h5
  match m,h4 with
  | 0,_=>simpa [E4.z]using h0
  | 1,_=>simpa [E4.z]using h1
  | 2,_=>simpa [E4.z]using h2
  | 3,_=>simpa [E4.z]using h3
 .rw[List.getElem?_eq_none (by simp[flat_length];omega),List.getElem?_eq_none (by simp;omega)]
theorem make_q (W:World)(n c:Nat)(hn:n<=c)(hc:c<=4398046511104) :
  (Instr.makeSlice 38 (.int .i64 (n:Int)) (.int .i64 (c:Int))).run Tryz.prog W=.ok (.slice (some ⟨W.heap.size,0,none⟩) n c) (W.alloc (.cells (flat (List.replicate c E4.z)).toArray 32)):=by
 obtain ⟨i0,hi,hz0,hz1,hz2⟩:=info_parts infoQ;have h:=run_make W 38 32 i0 _ Tryz.underlying38 hi hz0 .i64 .i64 n c (by omega) (by omega) (by rw[hz2];omega) (by omega);rw[hz1,Int.toNat_natCast,Int.toNat_natCast]at h;rw[h,flat_zero]
theorem Row.new (W:World)(c:Nat):Row (W.alloc (.cells (flat (List.replicate c E4.z)).toArray 32)) W.heap.size (List.replicate c E4.z) :=
 ⟨World.alloc_heap_new W _,fun e he=>by rw[List.eq_of_mem_replicate he];exact E4.z_fq⟩
theorem fq_cells {e:E4}(h:e.fq):∀u∈[e.a,e.b,e.c,e.d],u.oneCell'=true:=by
 obtain ⟨⟨n1,A1,k1,c1,e1,e2⟩,⟨n2,A2,k2,c2,e3,e4⟩⟩:=h;intro u hu;simp only[List.mem_cons,List.not_mem_nil,or_false]at hu
 rcases hu with rfl|rfl|rfl|rfl
 .rw[e1];rfl
 .rw[e2];rfl
 .rw[e3];rfl
 .rw[e4];rfl
theorem append_q {W:World}{g:Nat}{fl:List E4}{n:Nat}{e:E4}{a:Addr}{c:Nat}(h:Row W g fl)(hn:n<fl.length)(he:e.fq)
  (h0:W.cell? (a.add 0)=some e.a) (h1:W.cell? (a.add 1)=some e.b) (h2:W.cell? (a.add 2)=some e.c) (h3:W.cell? (a.add 3)=some e.d) (ty:TypeId) :
  (Builtin.append_ #[38,38] ty #[.slice (some ⟨g,0,none⟩) n fl.length,.slice (some a) 1 c]).run Tryz.prog W=.ok (.slice (some ⟨g,0,none⟩) (n+1) fl.length) (W.setRow g (flat (fl.set n e)).toArray):=by
 obtain ⟨i0,hi,hz0,hz1,hz2⟩:=info_parts infoQ
 have hr:=run_append_room (P:=Tryz.prog) W 38 ty 32 i0 Tryz.underlying38 hi g n fl.length _ h.heap a 1 c [e.a,e.b,e.c,e.d] (by rw[hz1];rfl)
  (fun j u hj=>by
   match j,hj with
   | 0,hj=>simp at hj;subst hj;exact h0
   | 1,hj=>simp at hj;subst hj;exact h1
   | 2,hj=>simp at hj;subst hj;exact h2
   | 3,hj=>simp at hj;subst hj;exact h3) (fq_cells he) (by omega) (by rw[hz1];simp[flat_length];omega)
 rw[hr,hz1]
 have e1:fl.set n e=fl.take n++e::fl.drop (n+1):=by
  rw[List.set_eq_take_append_cons_drop,if_pos hn]
 rw[e1,flat_app]
 have e2:(flat fl).drop (n*4+4)=flat (fl.drop (n+1)):=by
  rw[show n*4+4=(n+1)*4 from by omega,flat_drop]
 simp only[List.toList_toArray,flat_take,List.length_cons,List.length_nil,Nat.reduceAdd,e2,flat,List.append_assoc,List.cons_append,List.nil_append]
theorem Row.app {W:World}{g:Nat}{fl:List E4}{n:Nat}{e:E4}(h:Row W g fl)(he:e.fq):Row (W.setRow g (flat (fl.set n e)).toArray) g (fl.set n e) :=
 ⟨setRow_heap W g _ _ _ _ h.heap,fun x hx=>by
  rcases List.mem_or_eq_of_mem_set hx with hx|rfl
  .exact h.fq x hx
  .exact he⟩
theorem setRow_size (W:World)(g:Nat)(cs:Array Value):(W.setRow g cs).heap.size=W.heap.size:=by simp[World.setRow]
theorem below_setRow {B:Nat}{a w:World}(h:Below B a w){g:Nat}(hg:B<=g)(cs:Array Value):Below B a (w.setRow g cs) :=
 ⟨h.os,h.tape,h.output,by rw[setRow_size];exact h.size,fun k hk=>(setRow_other w g k cs (by omega)).trans (h.block k hk)⟩
structure Vi (W:World)(A:Option Addr)(c:Nat)(es:List E4)(rs:List Rat)(k:Nat):Prop where
 row:Rq W W.heap.size A es
 len:es.length=rs.length
 el:∀i,Qi W (es.getD i E4.z).a (es.getD i E4.z).b (es.getD i E4.z).c (es.getD i E4.z).d (rs.getD i 0) k
 fq:∀e∈es,e.fq
 cap:es.length<=c
 c63:c<=9223372036854775807
structure Vc (W:World)(A:Option Addr)(c:Nat)(es:List E4)(rs:List Rat):Prop where
 row:Rq W W.heap.size A es
 len:es.length=rs.length
 el:∀i,Qc W (es.getD i E4.z).a (es.getD i E4.z).b (es.getD i E4.z).c (es.getD i E4.z).d (rs.getD i 0)
 fq:∀e∈es,e.fq
 cap:es.length<=c
 c63:c<=9223372036854775807
theorem Vi.to {W V:World}{A:Option Addr}{c:Nat}{es:List E4}{rs:List Rat}{k:Nat}(h:Vi W A c es rs k)(hb:Below W.heap.size W V):Vi V A c es rs k :=
 ⟨h.row.to hb,h.len,fun i=>(h.el i).to hb,h.fq,h.cap,h.c63⟩
theorem Vc.to {W V:World}{A:Option Addr}{c:Nat}{es:List E4}{rs:List Rat}(h:Vc W A c es rs)(hb:Below W.heap.size W V):Vc V A c es rs :=
 ⟨h.row.to hb,h.len,fun i=>(h.el i).to hb,h.fq,h.cap,h.c63⟩
theorem Vc.vi {W:World}{A:Option Addr}{c:Nat}{es:List E4}{rs:List Rat}{k:Nat}(h:Vc W A c es rs)(hm:∀i,Qm k (rs.getD i 0))(hk:k<=10000):Vi W A c es rs k :=
 ⟨h.row,h.len,fun i=>(h.el i).qi (hm i) hk,h.fq,h.cap,h.c63⟩
theorem Qi.zero (W:World){k:Nat} : Qi W (.bool false) (.slice none 0 0) (.bool false) (.slice none 0 0) 0 k :=
 ⟨0,0,⟨false,none,0,[],rfl,rfl,⟨Rd.nil,Dg.nil,Nat.le_refl _,by decide,by decide⟩,by decide,rfl⟩,⟨false,none,0,[],rfl,rfl,⟨Rd.nil,Dg.nil,Nat.le_refl _,by decide,by decide⟩,by decide,rfl⟩,rfl,
  Nat.pow_pos (by decide),Nat.pow_pos (by decide)⟩
theorem Vi.nil (W:World){k c:Nat}{A:Option Addr}(hc:c<=9223372036854775807):Vi W A c [] [] k :=
 ⟨Rq.nil,rfl,fun i=>(by simpa [E4.z]using Qi.zero W),fun e he=>(by cases he),Nat.zero_le _,hc⟩
theorem Vc.nil (W:World){c:Nat}{A:Option Addr}(hc:c<=9223372036854775807):Vc W A c [] [] :=
 ⟨Rq.nil,rfl,fun _=>(⟨Zc.zero W,Zc.zero W⟩:Qc W _ _ _ _ 0),fun e he=>(by cases he),Nat.zero_le _,hc⟩
def VR (w:World)(rs:List Rat)(e:Ending)(w':World):Prop:=∃A c es,e=.returned (.slice A rs.length c)/\Vc w' A c es rs/\Below w.heap.size w w'
theorem at_in {w:World}{b o n c k:Nat}{n1 n2:Bool}{A1 A2:Option Addr}{j1 m1 j2 m2:Nat}(hk:k<n)(hn:n<=9223372036854775807)(hb:b<w.heap.size)
  (h0:w.cell? ⟨b,o+k*4,none⟩=some (.bool n1)) (h1:w.cell? ⟨b,o+k*4+1,none⟩=some (.slice A1 j1 m1)) (h2:w.cell? ⟨b,o+k*4+2,none⟩=some (.bool n2)) (h3:w.cell? ⟨b,o+k*4+3,none⟩=some (.slice A2 j2 m2)) :
  Calls Tryz.prog 116 #[.slice (some ⟨b,o,none⟩) n c,.int .i64 k] w fun e w'=>e=.returned (.agg #[.bool n1,.slice A1 j1 m1,.bool n2,.slice A2 j2 m2])/\Below w.heap.size w w':=by
 have hbw:Below w.heap.size w (w.alloc (.cells #[.bool false,.slice none 0 0,.bool false,.slice none 0 0] 32)):=bRR;have f0:=(hbw.cell (p:=⟨b,o+k*4,none⟩) hb).trans h0;have f1:=(hbw.cell (p:=⟨b,o+k*4+1,none⟩) hb).trans h1;have f2:=(hbw.cell (p:=⟨b,o+k*4+2,none⟩) hb).trans h2;have f3:=(hbw.cell (p:=⟨b,o+k*4+3,none⟩) hb).trans h3;have hk0:(k:Int)<(n:Int):=by omega
 have hk1:(0:Int)<=(k:Int):=by omega
 clear hbw h0 h1 h2 h3 hb
 go_enter Tryz.func116,Tryz.ntmps116
 go_wp2
 refine bodyPost_ret (v:=.agg #[.bool n1,.slice A1 j1 m1,.bool n2,.slice A2 j2 m2]) (by simp[results,Tryz.f116,go_sem]) rfl ?_;exact ⟨rfl,bRR⟩
theorem at_out {w:World}{A:Option Addr}{n c k:Nat}(hk:¬k<n) :
  Calls Tryz.prog 116 #[.slice A n c,.int .i64 k] w fun e w'=>e=.returned (.agg #[.bool false,.slice none 0 0,.bool false,.slice none 0 0])/\Below w.heap.size w w':=by
 have hk0:¬(k:Int)<(n:Int):=by omega
 clear hk
 go_enter Tryz.func116,Tryz.ntmps116
 go_wp2
 refine bodyPost_ret (v:=.agg #[.bool false,.slice none 0 0,.bool false,.slice none 0 0]) (by simp[results,Tryz.f116,go_sem]) rfl ?_;exact ⟨rfl,bRR⟩
theorem getD_at' {es:List E4}{k:Nat}(h:k<es.length):es.getD k E4.z=es[k]:=by simp[List.getD,h]
theorem getD_out {es:List E4}{k:Nat}(h:¬k<es.length):es.getD k E4.z=E4.z:=by simp[List.getD,h]
theorem at_v {w:World}{B:Nat}{A:Option Addr}{c k:Nat}{es:List E4}(h:Rq w B A es)(hq:∀e∈es,e.fq)(hl:es.length<=9223372036854775807) :
  Calls Tryz.prog 116 #[.slice A es.length c,.int .i64 k] w fun e w'=>e=.returned (es.getD k E4.z).v/\Below w.heap.size w w':=by
 by_cases hk:k<es.length
 .obtain ⟨b,o,rfl,hb,h0,h1,h2,h3⟩:=h k hk;rw[getD_at' hk];have hf:=hq _ (List.getElem_mem hk);generalize es[k]=e at h0 h1 h2 h3 hf;obtain ⟨e1,e2,e3,e4⟩:=e;obtain ⟨⟨n1,A1,k1,c1,g1,g2⟩,⟨n2,A2,k2,c2,g3,g4⟩⟩:=hf;dsimp only at g1 g2 g3 g4 h0 h1 h2 h3;subst g1 g2 g3 g4;exact at_in hk hl (World.block_lt_of_cell? w _ h0) h0 h1 h2 h3
 .rw[getD_out hk];exact at_out hk
theorem vpairs_any (A A':Option Addr)(n n' c c':Nat)(w:World) :
  Calls Tryz.prog 92 #[.slice A n c,.slice A' n' c'] w fun e w'=>e=.returned (.func (.func 115) #[] #[.pointer (some ⟨w.heap.size,0,none⟩),.pointer (some ⟨w.heap.size+1,0,none⟩)]) /\
   w'=(w.alloc (.cells #[.slice A n c] 38)).alloc (.cells #[.slice A' n' c'] 38):=by
 go_enter Tryz.func92,Tryz.ntmps92
 go_wp2
 go_ret
 exact ⟨rfl,rfl⟩
end Go.Proofs.YtglhdielkkhefaaGreat

namespace Go.Proofs.YtglhdielkkhefaaGreat
open Go.RowKit
def GivesB (P:Program)(g:Nat)(lb:Array Value)(N:Nat)(enc:Nat->Array Value)(S:Addr->Prop)(W:World):Prop :=
 ∀(l:Nat) (J Jx:Nat->World->Prop),
  (∀k V V',J k V->Below V.heap.size V V'->J k V') ->
  (∀k V,k<N->J k V->YieldAt Fence.wide 1 P l (enc k) V fun e V' =>
   (e=.returned (.bool true)/\J (k+1) V'/\KeepAt S V V')∨(e=.returned (.bool false)/\Jx k V')) ->
  J 0 W ->
  CallsIn Fence.wide 2 P g (#[.func (.yield l) #[] #[]]++lb) W fun e V=>(∃v,e=.returned v)/\(J N V∨∃k,k<N/\Jx k V)
theorem wp_roundsB {P:Program}{g:Operand}{ps:Array Tmp}{assign body:Code}{Q:Exit->Act->World->Prop}{a:Act}{w:World}
  {gf:Nat} {lb:Array Value} (hg:a.eval g=.func (.func gf) #[] lb) (eg:∀args v,(callFunc gf args).run P v=.ok (.enter gf args) v)
  {N:Nat} {enc:Nat->Array Value} {S:Addr->Prop} (hS:∀p,S p->p.block<w.heap.size) (hseq:∀W,Below w.heap.size w W->GivesB P gf lb N enc S W)
  (hps:∀k,(enc k).size=ps.size)
  (I:Nat->World->Prop) (I1:Nat->Act->World->Prop) (Ix:Code->Nat->World->Prop) (hI:OwnFrom w.heap.size I) (hI1:OwnFrom w.heap.size (fun s:Nat×Act=>I1 s.1 s.2)) (hIb:∀k V V',I k V->Below V.heap.size V V'->I k V') (hIx:∀c,OwnFrom w.heap.size (Ix c)) (h0:I 0 w)
  (hassign:∀(l k:Nat) (W:World) (K:Act->World->Prop),w.heap.size+1<W.heap.size->I k W->k<N->(∀a1 W1,Below W.heap.size W W1->I1 k a1 W1->K a1 W1) ->
   assign.wpIn (Fence.wide.inRound l) 1 P (Exit.then K (fun _ _ _=>False)) { tmps:=(ps.zip (enc k)).foldl (fun t (p,v)=>t.setIfInBounds p v) a.tmps,defers:=[] } W)
  (hbody:∀(l k:Nat) (a1:Act) (W:World),w.heap.size+1<W.heap.size->I1 k a1 W->k<N->body.wpIn (Fence.wide.inRound l) 1 P (leftBy w.heap.size (KeepAt S) (I (k+1)) (fun c=>Ix c k) W) a1 W)
  (hdone:∀W,I N W->W.heap[w.heap.size]?=some (.deferred (some []))->Q .normal { a with defers:={ target:=.collected w.heap.size,args:=#[] }::a.defers } W)
  (hstop:∀(c:Code) (k:Nat) (W:World),k<N->Ix c k W->W.heap[w.heap.size]?=some (.deferred (some [])) ->
   c.wpIn Fence.wide 3 P Q { a with defers:={ target:=.collected w.heap.size,args:=#[] }::a.defers } W) :
  (Code.rangeFunc g ps assign body).wpIn Fence.wide 3 P Q a w:=by
 refine wpIn_rangeFunc fun fn hfn=>?_
 obtain ⟨rec,hrec⟩:∃rec:LoopState->Option Code->Loop,rec=fun s p=>{ state:=s,pending:=p,fn,tmps:=a.tmps,params:=ps,assign,body,defers:=w.heap.size }:=⟨_,rfl⟩
 obtain ⟨W1,hW1⟩:∃W1,W1=(w.alloc (.deferred (some []))).alloc (.loop (rec .ready none)):=⟨_,rfl⟩
 have hl1:W1.heap[w.heap.size+1]?=some (.loop (rec .ready none)):=by
  have h:=World.alloc_heap_new (w.alloc (.deferred (some []))) (.loop (rec .ready none));rw[szA]at h;rw[hW1];exact h
 have hd1:W1.heap[w.heap.size]?=some (.deferred (some [])):=by
  rw[hW1];exact (Below.heap_alloc _ _ _ (by simp)).trans (World.alloc_heap_new w _)
 have hb1:Below w.heap.size w W1:=by rw[hW1];exact ((Below.refl _ w).alloc (Nat.le_refl _) _).alloc (by simp) _
 refine ⟨w.heap.size+1,[{ target:=.collected w.heap.size,args:=#[] }],W1,{ target:=.fn (.func gf) lb,args:=#[.func (.yield (w.heap.size+1)) #[] #[]] },W1,gf,
  #[.func (.yield (w.heap.size+1)) #[] #[]]++lb,W1,?_,?_,fun _ _=>trivial,?_,fun h=>by simp[Fence.wide]at h,?_⟩
 .rw[hW1,hrec];exact run_enterLoop_outer _ _ _ _ _
 .simp only[resolve,hg];simp[go_sem]
 .simp[invoke,go_sem,eg]
 refine (hseq W1 hb1 (w.heap.size+1)
  (fun k V=>I k V/\V.heap[w.heap.size+1]?=some (.loop (rec .ready none))/\V.heap[w.heap.size]?=some (.deferred (some [])))
  (fun k V=>∃c,Ix c k V/\V.heap[w.heap.size+1]?=some (.loop (rec .done (some c)))/\V.heap[w.heap.size]?=some (.deferred (some [])))
  ?stab ?_ ⟨by rw[hW1];exact hI.alloc _ (hI.alloc _ h0),hl1,hd1⟩).mono ?_
 case stab =>
  rintro k V V' ⟨h1,h2,h3⟩ hb;exact ⟨hIb k V V' h1 hb,(hb.block _ (Array.getElem?_eq_some_iff.1 h2).1).trans h2,(hb.block _ (Array.getElem?_eq_some_iff.1 h3).1).trans h3⟩
 .rintro k V hk ⟨hi,hl,hd⟩;have hlt:w.heap.size+1<V.heap.size:=(Array.getElem?_eq_some_iff.1 hl).1;have hy:=run_yield (P:=P) (args:=enc k) hl (by rw[hrec];exact hps k);rw[hrec]at hy;refine ⟨fn,_,assign,body,hy,roundIn_of_wpIn hfn (hassign _ k V _ hlt hi hk ?_)⟩;clear hy;intro a1 V1 hV1 hi1;have hkV:KeepAt S V V1:=fun p hp=>hV1.cell (p:=p) (by have:=hS p hp;omega)
  replace hl:=(hV1.block _ hlt).trans hl;replace hd:=(hV1.block _ (Array.getElem?_eq_some_iff.1 hd).1).trans hd;have hlt:w.heap.size+1<V1.heap.size:=(Array.getElem?_eq_some_iff.1 hl).1;clear hi hV1;refine ⟨_,run_beginRound hl (by rw[hrec]),?_⟩;have hl2:=World.putObj_heap_same (w:=V1) (o:=.loop { rec .ready none with state:=.busy }) hlt;have hd2:(V1.putObj (w.heap.size+1) (.loop { rec .ready none with state:=.busy })).heap[w.heap.size]?=some (.deferred (some [])):=(World.putObj_heap_other (by omega)).trans hd;have hlt2:w.heap.size+1<(V1.putObj (w.heap.size+1) (.loop { rec .ready none with state:=.busy })).heap.size:=(Array.getElem?_eq_some_iff.1 hl2).1;refine wpIn_mono (hbody _ k a1 _ hlt2 (hI1.putObj (s:=(k,a1)) _ hi1 (by omega) hl rfl) hk) fun e a3 W3 hp=>?_
  have fin:∀(jump:Option Code),KeepsFrom w.heap.size (V1.putObj (w.heap.size+1) (.loop { rec .ready none with state:=.busy })) W3 ->
    W3.heap[w.heap.size+1]?=some (.loop { rec .ready none with state:=.busy }) /\
    (Instr.endRound (w.heap.size+1) jump).run P W3=.ok (.bool jump.isNone) (W3.putObj (w.heap.size+1) (.loop (rec (if jump.isNone then .ready else .done) jump))) /\
    (W3.putObj (w.heap.size+1) (.loop (rec (if jump.isNone then .ready else .done) jump))).heap[w.heap.size+1]?=some (.loop (rec (if jump.isNone then .ready else .done) jump)) /\
    (W3.putObj (w.heap.size+1) (.loop (rec (if jump.isNone then .ready else .done) jump))).heap[w.heap.size]?=some (.deferred (some [])):=by
   intro jump hkf;have hl3:=hkf.same _ _ (by omega) hl2 rfl;have hd3:=hkf.same _ _ (Nat.le_refl _) hd2 rfl;refine ⟨hl3,?_,World.putObj_heap_same (Array.getElem?_eq_some_iff.1 hl3).1,(World.putObj_heap_other (by omega)).trans hd3⟩;have h:=run_endRound (P:=P) jump hl3;rw[hrec]at h ⊢;exact h
  match e,hp with
  | .normal,⟨hkf,hkp,hi3⟩ =>
   obtain ⟨hl3,hr,hl4,hd4⟩:=fin none hkf;exact ⟨_,_,hr,.inl ⟨rfl,⟨hI.putObj _ hi3 (by omega) hl3 rfl,hl4,hd4⟩,fun p hp=>(keepAt_round hS _ _ hkp p hp).trans (hkV p hp)⟩⟩
  | .ret,⟨hkf,hi3⟩ =>
   obtain ⟨hl3,hr,hl4,hd4⟩:=fin (some .ret) hkf;exact ⟨_,_,hr,.inr ⟨rfl,.ret,(hIx _).putObj _ hi3 (by omega) hl3 rfl,hl4,hd4⟩⟩
  | .exit id,⟨hkf,hi3⟩ =>
   obtain ⟨hl3,hr,hl4,hd4⟩:=fin (some (.exit id)) hkf;exact ⟨_,_,hr,.inr ⟨rfl,.exit id,(hIx _).putObj _ hi3 (by omega) hl3 rfl,hl4,hd4⟩⟩
  | .goto t,⟨hkf,hi3⟩ =>
   obtain ⟨hl3,hr,hl4,hd4⟩:=fin (some (.goto t)) hkf;exact ⟨_,_,hr,.inr ⟨rfl,.goto t,(hIx _).putObj _ hi3 (by omega) hl3 rfl,hl4,hd4⟩⟩
  | .panic _,hp=>exact hp.elim
  | .outgrown,hp=>exact hp.elim
 .rintro e W2 ⟨⟨v,rfl⟩,hjs⟩
  rcases hjs with ⟨hi,hl,hd⟩|⟨k,hk,c,hi,hl,hd⟩
  .have h:=run_endLoop (P:=P) hl (by rw[hrec];simp);rw[show (rec .ready none).pending=none from by rw[hrec]]at h;exact ⟨none,_,h,hdone _ (hI.putObj _ hi (by omega) hl rfl) ((World.putObj_heap_other (by omega)).trans hd)⟩
  .have h:=run_endLoop (P:=P) hl (by rw[hrec];simp);rw[show (rec .done (some c)).pending=some c from by rw[hrec]]at h;exact ⟨some c,_,h,hstop c k _ hk ((hIx c).putObj _ hi (by omega) hl rfl) ((World.putObj_heap_other (by omega)).trans hd)⟩
open Go.Shelf
attribute [local go_sem] Oper.semAt_some
def vpairE (es fs:List E4)(k:Nat):Array Value:=#[(es.getD k E4.z).v,(fs.getD k E4.z).v]
theorem Rq.keepAt {w w':World}{B:Nat}{S:Addr->Prop}{A:Option Addr}{es:List E4}(h:Rq w B A es)(hS:∀p:Addr,p.block<B->S p)(hk:KeepAt S w w'):Rq w' B A es:=by
 intro k hk';obtain ⟨b,o,rfl,hb,h0,h1,h2,h3⟩:=h k hk';exact ⟨b,o,rfl,hb,(hk ⟨b,_,none⟩ (hS ⟨b,_,none⟩ hb)).trans h0,(hk ⟨b,_,none⟩ (hS ⟨b,_,none⟩ hb)).trans h1,(hk ⟨b,_,none⟩ (hS ⟨b,_,none⟩ hb)).trans h2,(hk ⟨b,_,none⟩ (hS ⟨b,_,none⟩ hb)).trans h3⟩
theorem dagInE {F:Fence}{n:Nat}{P:Program}{md:Region.Mode}{ops:Array Oper}{Q:Exit->Act->World->Prop}(k:Nat)(l:Array Bool)(a:Act){k':Nat}{l':Array Bool}{a':Act}{w:World}(hk:k'=k)(hl:l'=l)(ha:a'=a)
  (h:∀G:Nat->Array Bool->Act->World->Prop,(∀{k l a w},wpAnyIn F n P md ops Q k l a w->G k l a w)->(∀{k l a w},G k l a w->wpAnyIn F n P md ops Q k l a w)->G k l a w):wpAnyIn F n P md ops Q k' l' a' w:=by
 subst hk hl ha;exact h _ (fun h=>h) (fun h=>h)
theorem vpairs_gives (Bx By B c c':Nat)(A A':Option Addr)(es fs:List E4)(hx63:es.length<=9223372036854775807)(hy63:fs.length<=9223372036854775807)(W:World)
  (hbx:W.cell? ⟨Bx,0,none⟩=some (.slice A es.length c)) (hby:W.cell? ⟨By,0,none⟩=some (.slice A' fs.length c')) (hx:Rq W B A es) (hy:Rq W B A' fs) (qx:∀e∈es,e.fq) (qy:∀e∈fs,e.fq) :
  GivesB Tryz.prog 115 #[.pointer (some ⟨Bx,0,none⟩),.pointer (some ⟨By,0,none⟩)] (max es.length fs.length) (vpairE es fs) (pairS Bx By B) W:=by
 intro l J Jx hst hY h0;refine callsIn_of_wp Tryz.func115 rfl trivial ?_ rfl;simp only[Tryz.ntmps115,List.size_toArray,List.length_cons,List.length_nil,Nat.reduceAdd,Nat.reduceSub,Array.replicate_succ,Array.replicate_zero,List.push_toArray,List.append_toArray,List.nil_append,List.cons_append];obtain ⟨N,hN⟩:∃N,max es.length fs.length=N:=⟨_,rfl⟩
 have hN63:N<=9223372036854775807:=by omega
 rw[hN]at hY ⊢;have HN:=Hd hN;have HST:=Hd hst;have HYY:=Hd hY;have QX:=Hd qx;have QY:=Hd qy;have HX63:=Hd hx63;have HY63:=Hd hy63;clear hst hY qx qy
 rcases Nat.lt_or_ge es.length fs.length with hle|hle
 rotate_left
 .obtain rfl:N=es.length:=by omega
  clear hN
  gi_wp2
  gi_loopw [10] (fun i wr=>∃k:Nat,i=.int .i64 k/\k<=es.length/\J k wr/\wr.cell? ⟨Bx,0,none⟩=some (.slice A es.length c)/\wr.cell? ⟨By,0,none⟩=some (.slice A' fs.length c')/\Rq wr B A es/\Rq wr B A' fs)
   (fun i _=>es.length-(intOf i).toNat)
  case atStart=>exact ⟨0,rfl,Nat.zero_le _,h0,hbx,hby,hx,hy⟩
  case round =>
   obtain ⟨k,rfl,hk,hJ,cx,cy,rx,ry⟩:=hrel;clear hbx hby hx hy h0;have klx:Bx<wr.heap.size:=World.block_lt_of_cell? wr _ cx;have kly:By<wr.heap.size:=World.block_lt_of_cell? wr _ cy
   by_cases hlt:k<es.length
   .have hlt':(k:Int)<(es.length:Nat):=by omega
    have hdec:decide ((k:Int)<max (es.length:Int) (fs.length:Int))=true:=decide_eq_true (by omega);have HX:=Hd (fun (V:World) (hV:Below wr.heap.size wr V)=>at_v (c:=c) (k:=k) (rx.grow hV) QX.out HX63.out);have HY:=Hd (fun (V:World) (hV:Below wr.heap.size wr V)=>at_v (c:=c') (k:=k) (ry.grow hV) QY.out HY63.out);have HJ:=Hd (fun (V:World) (hV:Below wr.heap.size wr V)=>HYY.out k V hlt (HST.out k _ _ hJ hV))
    have next:∀V W3,Below wr.heap.size wr V->J (k+1) W3->KeepAt (pairS Bx By B) V W3->(∃k':Nat,(Value.int .i64 ((k:Int)+1))=.int .i64 k'/\k'<=es.length/\J k' W3/\W3.cell? ⟨Bx,0,none⟩=some (.slice A es.length c)/\W3.cell? ⟨By,0,none⟩=some (.slice A' fs.length c')/\Rq W3 B A es/\Rq W3 B A' fs) :=
     fun V W3 hV hJ3 hk3=>⟨k+1,by simp,by omega,hJ3,(hk3 _ (.inl rfl)).trans ((hV.cell (p:=⟨Bx,0,none⟩) klx).trans cx),(hk3 _ (.inr (.inl rfl))).trans ((hV.cell (p:=⟨By,0,none⟩) kly).trans cy),(rx.grow hV).keepAt (fun p hp=>.inr (.inr hp)) hk3,(ry.grow hV).keepAt (fun p hp=>.inr (.inr hp)) hk3⟩
    have NEXT:=Hd next;have HEND:=Hd hlt;have CX:=Hd (fun (V:World) (hV:Below wr.heap.size wr V)=>(hV.cell (p:=⟨Bx,0,none⟩) klx).trans cx);have CY:=Hd (fun (V:World) (hV:Below wr.heap.size wr V)=>(hV.cell (p:=⟨By,0,none⟩) kly).trans cy);clear next rx ry cx cy hlt klx kly;obtain ⟨X,hX⟩:∃X,(es.getD k E4.z).v=X:=⟨_,rfl⟩
    obtain ⟨Y,hY⟩:∃Y,(fs.getD k E4.z).v=Y:=⟨_,rfl⟩
    unfold vpairE at HJ;rw[hX]at HX HJ;rw[hY]at HY HJ;clear hX hY
    gi_wp2_with fail
    refine wpIn_region_any follows ?_;refine wpAnyIn_take (i:=0) (v:=.func (.yield l) #[] #[]) rfl rfl (by kernel_rfl) (by kernel_rfl) (by kernel_rfl) (fun _ _ _ h=>h) ⟨Or.inl ⟨by rfl,fun w=>by go_simp⟩,fun _=>rfl⟩ ?_;refine wpAnyIn_take (i:=2) (v:=.int .i64 (k:Int)) rfl rfl (by kernel_rfl) (by kernel_rfl) (by kernel_rfl) (fun _ _ _ h=>h) ⟨Or.inl ⟨by rfl,fun w=>by go_simp⟩,fun _=>rfl⟩ ?_;refine wpAnyIn_take (i:=5) (v:=.int .i64 (k:Int)) rfl rfl (by kernel_rfl) (by kernel_rfl) (by kernel_rfl) (fun _ _ _ h=>h) ⟨Or.inl ⟨by rfl,fun w=>by go_simp⟩,fun _=>rfl⟩ ?_;refine dagInE 6 #[true,false,true,false,false,true,false,false,false] ⟨#[.func (.yield l) #[] #[],.pointer (some ⟨Bx,0,none⟩),.pointer (some ⟨By,0,none⟩),undef,.int .i64 (k:Int),.slice A es.length c,.int .i64 (es.length:Int),.slice A' fs.length c',.int .i64 (fs.length:Int),.int .i64 (max (es.length:Int) (fs.length:Int)),.int .i64 (k:Int),.bool true,.int .i64 (k:Int),.func (.yield l) #[] #[],u14,.int .i64 (k:Int),u16,u17,.int .i64 (k:Int),u19,u20,u21,u22],[]⟩ (by kernel_rfl) (by kernel_rfl) (by rfl) (fun G up dn=>?_)
    have S1346:∀V,Below wr.heap.size wr V->G 2 #[true,true,true,true,true,true,true,false,false] ⟨#[.func (.yield l) #[] #[],.pointer (some ⟨Bx,0,none⟩),.pointer (some ⟨By,0,none⟩),undef,.int .i64 (k:Int),.slice A es.length c,.int .i64 (es.length:Int),.slice A' fs.length c',.int .i64 (fs.length:Int),.int .i64 (max (es.length:Int) (fs.length:Int)),.int .i64 (k:Int),.bool true,.int .i64 (k:Int),.func (.yield l) #[] #[],.slice A es.length c,.int .i64 (k:Int),X,.slice A' fs.length c',.int .i64 (k:Int),Y,u20,u21,u22],[]⟩ V:=by
     intro V hV;refine up ?_;obtain ⟨fn,tmps,assign,body,hyy,hR⟩:=HJ.out V hV;refine rdyI (i:=7) (by kernel_rfl) rfl (fun K hK=>?_);go_simp
     gi_wp2
     refine hR.mono ?_;rintro e W3 (⟨rfl,hJ3,hk3⟩|⟨rfl,hJx3⟩)
     .refine hK _ _ ?_;clear hK K;refine rdyI (i:=8) (by kernel_rfl) rfl (fun K hK=>?_);go_simp
      refine hK _ _ ?_;clear hK K;refine wpAnyIn_done (by kernel_rfl) ?_ _
      gi_wp2
      go_roundw
      case rel=>exact NEXT.out V W3 hV hJ3 hk3
      case measure=>have:=HEND.out;simp[intOf];omega
     .refine hK _ _ ?_;clear hK K;refine rdyI (i:=8) (by kernel_rfl) rfl (fun K hK=>?_);go_simp
      refine hK _ _ ?_;clear hK K;refine wpAnyIn_done (by kernel_rfl) ?_ _
      gi_wp2
      refine bodyPost_ret (results_none rfl _ _ _) rfl ?_;exact ⟨⟨_,rfl⟩,.inr ⟨k,HEND.out,hJx3⟩⟩
    have S134:∀V,Below wr.heap.size wr V->G 3 #[true,true,true,true,true,true,false,false,false] ⟨#[.func (.yield l) #[] #[],.pointer (some ⟨Bx,0,none⟩),.pointer (some ⟨By,0,none⟩),undef,.int .i64 (k:Int),.slice A es.length c,.int .i64 (es.length:Int),.slice A' fs.length c',.int .i64 (fs.length:Int),.int .i64 (max (es.length:Int) (fs.length:Int)),.int .i64 (k:Int),.bool true,.int .i64 (k:Int),.func (.yield l) #[] #[],.slice A es.length c,.int .i64 (k:Int),X,.slice A' fs.length c',.int .i64 (k:Int),u19,u20,u21,u22],[]⟩ V:=by
     intro V hV;refine up ?_;refine rdyI (i:=6) (by kernel_rfl) rfl (fun K hK=>?_);go_simp
     gi_wp2_with (refine ⟨trivial,?_⟩;gi_at_call 116;refine (callsIn_wide.2 (HY.out V hV)).mono ?_;rintro e w' ⟨rfl,bb⟩)
     exact dn (S1346 _ (Bxb hV bb))
    have S14:∀V,Below wr.heap.size wr V->G 4 #[true,true,true,false,true,true,false,false,false] ⟨#[.func (.yield l) #[] #[],.pointer (some ⟨Bx,0,none⟩),.pointer (some ⟨By,0,none⟩),undef,.int .i64 (k:Int),.slice A es.length c,.int .i64 (es.length:Int),.slice A' fs.length c',.int .i64 (fs.length:Int),.int .i64 (max (es.length:Int) (fs.length:Int)),.int .i64 (k:Int),.bool true,.int .i64 (k:Int),.func (.yield l) #[] #[],.slice A es.length c,.int .i64 (k:Int),u16,.slice A' fs.length c',.int .i64 (k:Int),u19,u20,u21,u22],[]⟩ V:=by
     intro V hV;refine up ?_;refine rdyI (i:=3) (by kernel_rfl) rfl (fun K hK=>?_);go_simp
     gi_wp2_with (refine ⟨trivial,?_⟩;gi_at_call 116;refine (callsIn_wide.2 (HX.out V hV)).mono ?_;rintro e w' ⟨rfl,bb⟩)
     exact dn (S134 _ (Bxb hV bb))
    have S13:∀V,Below wr.heap.size wr V->G 4 #[true,true,true,true,false,true,false,false,false] ⟨#[.func (.yield l) #[] #[],.pointer (some ⟨Bx,0,none⟩),.pointer (some ⟨By,0,none⟩),undef,.int .i64 (k:Int),.slice A es.length c,.int .i64 (es.length:Int),.slice A' fs.length c',.int .i64 (fs.length:Int),.int .i64 (max (es.length:Int) (fs.length:Int)),.int .i64 (k:Int),.bool true,.int .i64 (k:Int),.func (.yield l) #[] #[],.slice A es.length c,.int .i64 (k:Int),X,u17,.int .i64 (k:Int),u19,u20,u21,u22],[]⟩ V:=by
     intro V hV;refine up ?_;refine rdyI (i:=4) (by kernel_rfl) rfl (fun K hK=>?_);have cc:=CY.out V hV;go_simp
     refine hK _ _ ?_;exact dn (S134 V hV)
    have S1:∀V,Below wr.heap.size wr V->G 5 #[true,true,true,false,false,true,false,false,false] ⟨#[.func (.yield l) #[] #[],.pointer (some ⟨Bx,0,none⟩),.pointer (some ⟨By,0,none⟩),undef,.int .i64 (k:Int),.slice A es.length c,.int .i64 (es.length:Int),.slice A' fs.length c',.int .i64 (fs.length:Int),.int .i64 (max (es.length:Int) (fs.length:Int)),.int .i64 (k:Int),.bool true,.int .i64 (k:Int),.func (.yield l) #[] #[],.slice A es.length c,.int .i64 (k:Int),u16,u17,.int .i64 (k:Int),u19,u20,u21,u22],[]⟩ V:=by
     intro V hV;refine up ?_;refine wpAnyIn_ready (rs:=[3,4]) (by kernel_rfl) (by simp) (AllReadyIn.cons rfl (fun K hK=>?_) (AllReadyIn.cons rfl (fun K hK=>?_) AllReadyIn.nil))
     .go_simp
      gi_wp2_with (refine ⟨trivial,?_⟩;gi_at_call 116;refine (callsIn_wide.2 (HX.out V hV)).mono ?_;rintro e w' ⟨rfl,bb⟩)
      exact dn (S13 _ (Bxb hV bb))
     .have cc:=CY.out V hV;go_simp
      refine hK _ _ ?_;exact dn (S14 V hV)
    have S4:∀V,Below wr.heap.size wr V->G 5 #[true,false,true,false,true,true,false,false,false] ⟨#[.func (.yield l) #[] #[],.pointer (some ⟨Bx,0,none⟩),.pointer (some ⟨By,0,none⟩),undef,.int .i64 (k:Int),.slice A es.length c,.int .i64 (es.length:Int),.slice A' fs.length c',.int .i64 (fs.length:Int),.int .i64 (max (es.length:Int) (fs.length:Int)),.int .i64 (k:Int),.bool true,.int .i64 (k:Int),.func (.yield l) #[] #[],u14,.int .i64 (k:Int),u16,.slice A' fs.length c',.int .i64 (k:Int),u19,u20,u21,u22],[]⟩ V:=by
     intro V hV;refine up ?_;refine rdyI (i:=1) (by kernel_rfl) rfl (fun K hK=>?_);have cc:=CX.out V hV;go_simp
     refine hK _ _ ?_;exact dn (S14 V hV)
    have S:∀V,Below wr.heap.size wr V->G 6 #[true,false,true,false,false,true,false,false,false] ⟨#[.func (.yield l) #[] #[],.pointer (some ⟨Bx,0,none⟩),.pointer (some ⟨By,0,none⟩),undef,.int .i64 (k:Int),.slice A es.length c,.int .i64 (es.length:Int),.slice A' fs.length c',.int .i64 (fs.length:Int),.int .i64 (max (es.length:Int) (fs.length:Int)),.int .i64 (k:Int),.bool true,.int .i64 (k:Int),.func (.yield l) #[] #[],u14,.int .i64 (k:Int),u16,u17,.int .i64 (k:Int),u19,u20,u21,u22],[]⟩ V:=by
     intro V hV;refine up ?_;refine wpAnyIn_ready (rs:=[1,4]) (by kernel_rfl) (by simp) (AllReadyIn.cons rfl (fun K hK=>?_) (AllReadyIn.cons rfl (fun K hK=>?_) AllReadyIn.nil))
     .have cc:=CX.out V hV;go_simp
      refine hK _ _ ?_;exact dn (S1 V hV)
     .have cc:=CY.out V hV;go_simp
      refine hK _ _ ?_;exact dn (S4 V hV)
    exact S _ (Below.refl _ _).drew
   .obtain rfl:k=es.length:=by omega
    gi_wp2
    go_end0
    exact ⟨⟨_,rfl⟩,.inl hJ⟩
 .obtain rfl:N=fs.length:=by omega
  clear hN
  gi_wp2
  gi_loopw [10] (fun i wr=>∃k:Nat,i=.int .i64 k/\k<=fs.length/\J k wr/\wr.cell? ⟨Bx,0,none⟩=some (.slice A es.length c)/\wr.cell? ⟨By,0,none⟩=some (.slice A' fs.length c')/\Rq wr B A es/\Rq wr B A' fs)
   (fun i _=>fs.length-(intOf i).toNat)
  case atStart=>exact ⟨0,rfl,Nat.zero_le _,h0,hbx,hby,hx,hy⟩
  case round =>
   obtain ⟨k,rfl,hk,hJ,cx,cy,rx,ry⟩:=hrel;clear hbx hby hx hy h0;have klx:Bx<wr.heap.size:=World.block_lt_of_cell? wr _ cx;have kly:By<wr.heap.size:=World.block_lt_of_cell? wr _ cy
   by_cases hlt:k<fs.length
   .have hlt':(k:Int)<(fs.length:Nat):=by omega
    have hdec:decide ((k:Int)<max (es.length:Int) (fs.length:Int))=true:=decide_eq_true (by omega);have HX:=Hd (fun (V:World) (hV:Below wr.heap.size wr V)=>at_v (c:=c) (k:=k) (rx.grow hV) QX.out HX63.out);have HY:=Hd (fun (V:World) (hV:Below wr.heap.size wr V)=>at_v (c:=c') (k:=k) (ry.grow hV) QY.out HY63.out);have HJ:=Hd (fun (V:World) (hV:Below wr.heap.size wr V)=>HYY.out k V hlt (HST.out k _ _ hJ hV))
    have next:∀V W3,Below wr.heap.size wr V->J (k+1) W3->KeepAt (pairS Bx By B) V W3->(∃k':Nat,(Value.int .i64 ((k:Int)+1))=.int .i64 k'/\k'<=fs.length/\J k' W3/\W3.cell? ⟨Bx,0,none⟩=some (.slice A es.length c)/\W3.cell? ⟨By,0,none⟩=some (.slice A' fs.length c')/\Rq W3 B A es/\Rq W3 B A' fs) :=
     fun V W3 hV hJ3 hk3=>⟨k+1,by simp,by omega,hJ3,(hk3 _ (.inl rfl)).trans ((hV.cell (p:=⟨Bx,0,none⟩) klx).trans cx),(hk3 _ (.inr (.inl rfl))).trans ((hV.cell (p:=⟨By,0,none⟩) kly).trans cy),(rx.grow hV).keepAt (fun p hp=>.inr (.inr hp)) hk3,(ry.grow hV).keepAt (fun p hp=>.inr (.inr hp)) hk3⟩
    have NEXT:=Hd next;have HEND:=Hd hlt;have CX:=Hd (fun (V:World) (hV:Below wr.heap.size wr V)=>(hV.cell (p:=⟨Bx,0,none⟩) klx).trans cx);have CY:=Hd (fun (V:World) (hV:Below wr.heap.size wr V)=>(hV.cell (p:=⟨By,0,none⟩) kly).trans cy);clear next rx ry cx cy hlt klx kly;obtain ⟨X,hX⟩:∃X,(es.getD k E4.z).v=X:=⟨_,rfl⟩
    obtain ⟨Y,hY⟩:∃Y,(fs.getD k E4.z).v=Y:=⟨_,rfl⟩
    unfold vpairE at HJ;rw[hX]at HX HJ;rw[hY]at HY HJ;clear hX hY
    gi_wp2_with fail
    refine wpIn_region_any follows ?_;refine wpAnyIn_take (i:=0) (v:=.func (.yield l) #[] #[]) rfl rfl (by kernel_rfl) (by kernel_rfl) (by kernel_rfl) (fun _ _ _ h=>h) ⟨Or.inl ⟨by rfl,fun w=>by go_simp⟩,fun _=>rfl⟩ ?_;refine wpAnyIn_take (i:=2) (v:=.int .i64 (k:Int)) rfl rfl (by kernel_rfl) (by kernel_rfl) (by kernel_rfl) (fun _ _ _ h=>h) ⟨Or.inl ⟨by rfl,fun w=>by go_simp⟩,fun _=>rfl⟩ ?_;refine wpAnyIn_take (i:=5) (v:=.int .i64 (k:Int)) rfl rfl (by kernel_rfl) (by kernel_rfl) (by kernel_rfl) (fun _ _ _ h=>h) ⟨Or.inl ⟨by rfl,fun w=>by go_simp⟩,fun _=>rfl⟩ ?_;refine dagInE 6 #[true,false,true,false,false,true,false,false,false] ⟨#[.func (.yield l) #[] #[],.pointer (some ⟨Bx,0,none⟩),.pointer (some ⟨By,0,none⟩),undef,.int .i64 (k:Int),.slice A es.length c,.int .i64 (es.length:Int),.slice A' fs.length c',.int .i64 (fs.length:Int),.int .i64 (max (es.length:Int) (fs.length:Int)),.int .i64 (k:Int),.bool true,.int .i64 (k:Int),.func (.yield l) #[] #[],u14,.int .i64 (k:Int),u16,u17,.int .i64 (k:Int),u19,u20,u21,u22],[]⟩ (by kernel_rfl) (by kernel_rfl) (by rfl) (fun G up dn=>?_)
    have S1346:∀V,Below wr.heap.size wr V->G 2 #[true,true,true,true,true,true,true,false,false] ⟨#[.func (.yield l) #[] #[],.pointer (some ⟨Bx,0,none⟩),.pointer (some ⟨By,0,none⟩),undef,.int .i64 (k:Int),.slice A es.length c,.int .i64 (es.length:Int),.slice A' fs.length c',.int .i64 (fs.length:Int),.int .i64 (max (es.length:Int) (fs.length:Int)),.int .i64 (k:Int),.bool true,.int .i64 (k:Int),.func (.yield l) #[] #[],.slice A es.length c,.int .i64 (k:Int),X,.slice A' fs.length c',.int .i64 (k:Int),Y,u20,u21,u22],[]⟩ V:=by
     intro V hV;refine up ?_;obtain ⟨fn,tmps,assign,body,hyy,hR⟩:=HJ.out V hV;refine rdyI (i:=7) (by kernel_rfl) rfl (fun K hK=>?_);go_simp
     gi_wp2
     refine hR.mono ?_;rintro e W3 (⟨rfl,hJ3,hk3⟩|⟨rfl,hJx3⟩)
     .refine hK _ _ ?_;clear hK K;refine rdyI (i:=8) (by kernel_rfl) rfl (fun K hK=>?_);go_simp
      refine hK _ _ ?_;clear hK K;refine wpAnyIn_done (by kernel_rfl) ?_ _
      gi_wp2
      go_roundw
      case rel=>exact NEXT.out V W3 hV hJ3 hk3
      case measure=>have:=HEND.out;simp[intOf];omega
     .refine hK _ _ ?_;clear hK K;refine rdyI (i:=8) (by kernel_rfl) rfl (fun K hK=>?_);go_simp
      refine hK _ _ ?_;clear hK K;refine wpAnyIn_done (by kernel_rfl) ?_ _
      gi_wp2
      refine bodyPost_ret (results_none rfl _ _ _) rfl ?_;exact ⟨⟨_,rfl⟩,.inr ⟨k,HEND.out,hJx3⟩⟩
    have S134:∀V,Below wr.heap.size wr V->G 3 #[true,true,true,true,true,true,false,false,false] ⟨#[.func (.yield l) #[] #[],.pointer (some ⟨Bx,0,none⟩),.pointer (some ⟨By,0,none⟩),undef,.int .i64 (k:Int),.slice A es.length c,.int .i64 (es.length:Int),.slice A' fs.length c',.int .i64 (fs.length:Int),.int .i64 (max (es.length:Int) (fs.length:Int)),.int .i64 (k:Int),.bool true,.int .i64 (k:Int),.func (.yield l) #[] #[],.slice A es.length c,.int .i64 (k:Int),X,.slice A' fs.length c',.int .i64 (k:Int),u19,u20,u21,u22],[]⟩ V:=by
     intro V hV;refine up ?_;refine rdyI (i:=6) (by kernel_rfl) rfl (fun K hK=>?_);go_simp
     gi_wp2_with (refine ⟨trivial,?_⟩;gi_at_call 116;refine (callsIn_wide.2 (HY.out V hV)).mono ?_;rintro e w' ⟨rfl,bb⟩)
     exact dn (S1346 _ (Bxb hV bb))
    have S14:∀V,Below wr.heap.size wr V->G 4 #[true,true,true,false,true,true,false,false,false] ⟨#[.func (.yield l) #[] #[],.pointer (some ⟨Bx,0,none⟩),.pointer (some ⟨By,0,none⟩),undef,.int .i64 (k:Int),.slice A es.length c,.int .i64 (es.length:Int),.slice A' fs.length c',.int .i64 (fs.length:Int),.int .i64 (max (es.length:Int) (fs.length:Int)),.int .i64 (k:Int),.bool true,.int .i64 (k:Int),.func (.yield l) #[] #[],.slice A es.length c,.int .i64 (k:Int),u16,.slice A' fs.length c',.int .i64 (k:Int),u19,u20,u21,u22],[]⟩ V:=by
     intro V hV;refine up ?_;refine rdyI (i:=3) (by kernel_rfl) rfl (fun K hK=>?_);go_simp
     gi_wp2_with (refine ⟨trivial,?_⟩;gi_at_call 116;refine (callsIn_wide.2 (HX.out V hV)).mono ?_;rintro e w' ⟨rfl,bb⟩)
     exact dn (S134 _ (Bxb hV bb))
    have S13:∀V,Below wr.heap.size wr V->G 4 #[true,true,true,true,false,true,false,false,false] ⟨#[.func (.yield l) #[] #[],.pointer (some ⟨Bx,0,none⟩),.pointer (some ⟨By,0,none⟩),undef,.int .i64 (k:Int),.slice A es.length c,.int .i64 (es.length:Int),.slice A' fs.length c',.int .i64 (fs.length:Int),.int .i64 (max (es.length:Int) (fs.length:Int)),.int .i64 (k:Int),.bool true,.int .i64 (k:Int),.func (.yield l) #[] #[],.slice A es.length c,.int .i64 (k:Int),X,u17,.int .i64 (k:Int),u19,u20,u21,u22],[]⟩ V:=by
     intro V hV;refine up ?_;refine rdyI (i:=4) (by kernel_rfl) rfl (fun K hK=>?_);have cc:=CY.out V hV;go_simp
     refine hK _ _ ?_;exact dn (S134 V hV)
    have S1:∀V,Below wr.heap.size wr V->G 5 #[true,true,true,false,false,true,false,false,false] ⟨#[.func (.yield l) #[] #[],.pointer (some ⟨Bx,0,none⟩),.pointer (some ⟨By,0,none⟩),undef,.int .i64 (k:Int),.slice A es.length c,.int .i64 (es.length:Int),.slice A' fs.length c',.int .i64 (fs.length:Int),.int .i64 (max (es.length:Int) (fs.length:Int)),.int .i64 (k:Int),.bool true,.int .i64 (k:Int),.func (.yield l) #[] #[],.slice A es.length c,.int .i64 (k:Int),u16,u17,.int .i64 (k:Int),u19,u20,u21,u22],[]⟩ V:=by
     intro V hV;refine up ?_;refine wpAnyIn_ready (rs:=[3,4]) (by kernel_rfl) (by simp) (AllReadyIn.cons rfl (fun K hK=>?_) (AllReadyIn.cons rfl (fun K hK=>?_) AllReadyIn.nil))
     .go_simp
      gi_wp2_with (refine ⟨trivial,?_⟩;gi_at_call 116;refine (callsIn_wide.2 (HX.out V hV)).mono ?_;rintro e w' ⟨rfl,bb⟩)
      exact dn (S13 _ (Bxb hV bb))
     .have cc:=CY.out V hV;go_simp
      refine hK _ _ ?_;exact dn (S14 V hV)
    have S4:∀V,Below wr.heap.size wr V->G 5 #[true,false,true,false,true,true,false,false,false] ⟨#[.func (.yield l) #[] #[],.pointer (some ⟨Bx,0,none⟩),.pointer (some ⟨By,0,none⟩),undef,.int .i64 (k:Int),.slice A es.length c,.int .i64 (es.length:Int),.slice A' fs.length c',.int .i64 (fs.length:Int),.int .i64 (max (es.length:Int) (fs.length:Int)),.int .i64 (k:Int),.bool true,.int .i64 (k:Int),.func (.yield l) #[] #[],u14,.int .i64 (k:Int),u16,.slice A' fs.length c',.int .i64 (k:Int),u19,u20,u21,u22],[]⟩ V:=by
     intro V hV;refine up ?_;refine rdyI (i:=1) (by kernel_rfl) rfl (fun K hK=>?_);have cc:=CX.out V hV;go_simp
     refine hK _ _ ?_;exact dn (S14 V hV)
    have S:∀V,Below wr.heap.size wr V->G 6 #[true,false,true,false,false,true,false,false,false] ⟨#[.func (.yield l) #[] #[],.pointer (some ⟨Bx,0,none⟩),.pointer (some ⟨By,0,none⟩),undef,.int .i64 (k:Int),.slice A es.length c,.int .i64 (es.length:Int),.slice A' fs.length c',.int .i64 (fs.length:Int),.int .i64 (max (es.length:Int) (fs.length:Int)),.int .i64 (k:Int),.bool true,.int .i64 (k:Int),.func (.yield l) #[] #[],u14,.int .i64 (k:Int),u16,u17,.int .i64 (k:Int),u19,u20,u21,u22],[]⟩ V:=by
     intro V hV;refine up ?_;refine wpAnyIn_ready (rs:=[1,4]) (by kernel_rfl) (by simp) (AllReadyIn.cons rfl (fun K hK=>?_) (AllReadyIn.cons rfl (fun K hK=>?_) AllReadyIn.nil))
     .have cc:=CX.out V hV;go_simp
      refine hK _ _ ?_;exact dn (S1 V hV)
     .have cc:=CY.out V hV;go_simp
      refine hK _ _ ?_;exact dn (S4 V hV)
    exact S _ (Below.refl _ _).drew
   .obtain rfl:k=fs.length:=by omega
    gi_wp2
    go_end0
    exact ⟨⟨_,rfl⟩,.inl hJ⟩
end Go.Proofs.YtglhdielkkhefaaGreat

namespace Go.Proofs.YtglhdielkkhefaaGreat
open Go.RowKit Go.Shelf
attribute [local go_sem] Oper.semAt_some
theorem wpList_makeq (w:World){ops:Array Oper}{rest:List Oper}{o:Oper}{a:Act}{Q:Exit->Act->World->Prop}
  (hg:o.guard=none) (l c:Operand) (hop:o.op=Op.makeSlice 38 l c) (N C:Nat) {L D:Int} (hl:a.eval l=.int .i64 L) (hc:a.eval c=.int .i64 D) (hL:L=(N:Int)) (hC:D=(C:Int)) (h1:N<=C) (h2:C<=4398046511104)
  (hK:wpList Tryz.prog ops Q rest (a.put o.dst (.slice (some ⟨w.heap.size,0,none⟩) N C)) (w.alloc (.cells (flat (List.replicate C E4.z)).toArray 32))) :
  wpList Tryz.prog ops Q (o::rest) a w:=by
 refine wpList_plain hg fun K hK'=>?_
 have hrun:=make_q w N C h1 h2;subst hL;subst hC;unfold Oper.wp;simp[execOp,hop,hl,hc,hrun,Result.andThen];exact hK' _ _ hK
def Hp (W:World)(g:Nat)(o:Obj):Prop:=W.heap[g]?=some o
section
variable {W V : World} {g : Nat} {o : Obj}
theorem Hp.lt (h:Hp W g o):g<W.heap.size:=(Array.getElem?_eq_some_iff.1 h).1
theorem Hp.to (h:Hp W g o)(hb:Below W.heap.size W V):Hp V g o:=(hb.block g h.lt).trans h
theorem Hp.new (W:World)(cs:Array Value)(t:TypeId):Hp (W.alloc (.cells cs t)) W.heap.size (.cells cs t (0,0)):=World.alloc_heap_new W _
theorem Hp.alloc (h:Hp W g o)(p:Obj):Hp (W.alloc p) g o:=h.to bRR
theorem Hp.four {a b c d:Value}{t:TypeId}(h:Hp W g (.cells #[a,b,c,d] t (0,0))):Four W g a b c d:=Four.of h
theorem Hp.one {a:Value}{t:TypeId}(h:Hp W g (.cells #[a] t (0,0))):W.cell? ⟨g,0,none⟩=some a:=Boxed.cell (t:=t) h
theorem Hp.grown {row:Option Nat}(h:Hp W g o)(hg:W.grownBy V row)(hr:∀r,row=some r->∃o:Obj,W.heap[r]?=some o/\o.isCells=false)(ho:o.isCells=true):Hp V g o :=
 (grownBy_keeps_cells hg hr h ho).trans h
theorem Kw.grown {row:Option Nat}(hg:W.grownBy V row)(hr:∀r,row=some r->∃o:Obj,W.heap[r]?=some o/\o.isCells=false):Kw W V :=
 ⟨hg.size,fun _ _ hp=>cell_kept hp hg hr⟩
theorem Row.grown {es:List E4}{row:Option Nat}(h:Row W g es)(hg:W.grownBy V row)(hr:∀r,row=some r->∃o:Obj,W.heap[r]?=some o/\o.isCells=false):Row V g es :=
 ⟨(grownBy_keeps_cells hg hr h.heap rfl).trans h.heap,h.fq⟩
end
structure Acc (W:World)(H g N k:Nat)(f:Nat->Rat):Prop where
 box:Hp W H (.cells #[.slice (some ⟨g,0,none⟩) k N] 38 (0,0))
 row:∃fl,Row W g fl/\fl.length=N/\∀i,i<k->Qc W (fl.getD i E4.z).a (fl.getD i E4.z).b (fl.getD i E4.z).c (fl.getD i E4.z).d (f i)
section
variable {W V : World} {H g N k : Nat} {f : Nat -> Rat}
end
end Go.Proofs.YtglhdielkkhefaaGreat

namespace Go.Proofs.YtglhdielkkhefaaGreat
open Go.RowKit Go.Shelf
attribute [local go_sem] Oper.semAt_some
structure CombI (w:World)(FV VX VY:Value)(N k:Nat)(f:Nat->Rat)(W:World):Prop where
 acc:Acc W (w.heap.size+1+1) (w.heap.size+1) N k f
 fn:Hp W w.heap.size (.cells #[FV] 83 (0,0))
 bx:Hp W (w.heap.size+1+1+1) (.cells #[VX] 38 (0,0))
 by':Hp W (w.heap.size+1+1+1+1) (.cells #[VY] 38 (0,0))
 bel:Below w.heap.size w W
theorem fq_getD {es:List E4}(h:∀e∈es,e.fq)(k:Nat):(es.getD k E4.z).fq:=by
 by_cases hk:k<es.length
 .rw[getD_at' hk];exact h _ (List.getElem_mem hk)
 .rw[getD_out hk];exact E4.z_fq
def combA (FV VX VY:Value)(L M g:Nat)(V8 V9 X Y s21 s22 s23 s24 s25 s26:Value):Act :=
 ⟨#[VX,VY,FV,undef,undef,.pointer (some ⟨g,0,none⟩),.slice none 0 0,.pointer (some ⟨g+1+1,0,none⟩),V8,V9,VX,.int .i64 (L:Int),VY,.int .i64 (M:Int),.int .i64 (max (L:Int) (M:Int)),.slice (some ⟨g+1,0,none⟩) 0 (max L M),VX,VY,
  .func (.func 115) #[] #[.pointer (some ⟨g+1+1+1,0,none⟩),.pointer (some ⟨g+1+1+1+1,0,none⟩)],X,Y,s21,s22,s23,s24,s25,s26,undef,undef],[]⟩
def cb1 (A A':Option Addr)(c c':Nat)(es fs:List E4)(w:World)(V8 V9 X Y s21 s22 s23 s24 s25 s26:Value):Act:=(combA (.func (.func 90) #[] #[]) (.slice A es.length c) (.slice A' fs.length c') es.length fs.length w.heap.size V8 V9 X Y s21 s22 s23 s24 s25 s26)
def cb3 (A A':Option Addr)(c c':Nat)(es fs:List E4)(w:World)(gk:Nat)(V8 V9 X Y s21 s22 s23 s24 s25 s26:Value):Act:=(combA (.func (.func 135) #[] #[.pointer (some ⟨gk,0,none⟩)]) (.slice A es.length c) (.slice A' fs.length c') es.length fs.length w.heap.size V8 V9 X Y s21 s22 s23 s24 s25 s26)
end Go.Proofs.YtglhdielkkhefaaGreat

namespace Go.Proofs.YtglhdielkkhefaaGreat
open Go.RowKit Go.Shelf
attribute [local go_sem] Oper.semAt_some
def lexF (f:Nat->Int):Nat->Nat->Int
 | _,0=>0
 | k,n+1=>if f k=0 then lexF f (k+1) n else f k
def posF (f:Nat->Int):Nat->Nat->Option Nat
 | _,0=>none
 | k,n+1=>if 0<f k then some k else posF f (k+1) n
structure PairI (w:World)(B:Nat)(VX VY:Value)(W:World):Prop where
 bx:Hp W B (.cells #[VX] 38 (0,0))
 by':Hp W (B+1) (.cells #[VY] 38 (0,0))
 bel:Below w.heap.size w W
theorem PairI.to {w:World}{B:Nat}{VX VY:Value}{W V:World}(h:PairI w B VX VY W)(hb:Below W.heap.size W V):PairI w B VX VY V:=⟨h.bx.to hb,h.by'.to hb,h.bel.trans (hb.mono h.bel.size)⟩
theorem PairI.grown {w:World}{B:Nat}{VX VY:Value}{W V:World}{row:Option Nat}{C:Nat}(h:PairI w B VX VY W)(hB:w.heap.size<=C)(hg:W.grownBy V row)
  (hr:∀r,row=some r->C<=r/\∃o:Obj,W.heap[r]?=some o/\o.isCells=false):PairI w B VX VY V :=
 have hr':=fun r e=>(hr r e).2
 ⟨h.bx.grown hg hr' rfl,h.by'.grown hg hr' rfl,h.bel.grown hg h.bel.size (fun k e=>Nat.le_trans hB (hr k e).1)⟩
def EHp (W:World)(p:Nat)(e:E4):Prop:=Hp W p (.cells #[e.a,e.b,e.c,e.d] 32 (0,0))
theorem KeepAt.of {S:Addr->Prop}{W V:World}(h:∀p,S p->V.heap[p.block]?=W.heap[p.block]?):KeepAt S W V:=fun p hp=>World.cell?_of_block (h p hp)
def lexQ (rs ss:List Rat):Int:=lexF (fun i=>cmpQ (rs.getD i 0) (ss.getD i 0)) 0 (max rs.length ss.length)
def aboveQ (rs ss:List Rat):Option Nat:=posF (fun i=>cmpQ (rs.getD i 0) (ss.getD i 0)) 0 (max rs.length ss.length)
end Go.Proofs.YtglhdielkkhefaaGreat
