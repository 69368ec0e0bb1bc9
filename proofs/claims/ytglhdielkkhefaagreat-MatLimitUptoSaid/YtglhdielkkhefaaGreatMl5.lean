/- Parts: 12. -/
import Derived.Test.YtglhdielkkhefaaGreatMl1
import Derived.Test.YtglhdielkkhefaaGreatMl3
import Derived.Test.YtglhdielkkhefaaGreatMl4
set_option linter.unusedVariables false
set_option linter.unusedSimpArgs false
set_option maxRecDepth 100000
set_option maxHeartbeats 40000000

namespace Go.Proofs.YtglhdielkkhefaaGreat
open Go.RowKit Go.Shelf
def sgn (z:Int):Int:=if z=0 then 0 else if z<0 then -1 else 1
theorem sign_any (n:Bool){A:Option Addr}{c:Nat}{xs:List Nat}{w:World}(hx:Arg w A c xs) :
  Calls Tryz.prog 95 #[.agg #[.bool n,.slice A xs.length c]] w fun e w'=>e=.returned (.int .i64 (sgn (zof n (val b32 xs))))/\Below w.heap.size w w':=by
 have hb:=Hd ((Below.refl w.heap.size w).alloc (Nat.le_refl _) (.cells #[.bool n,.slice A xs.length c] 30));have HT:=Hd (trim_q (hx.to hb.out))
 have hlen:((trimL xs).length=0)↔val b32 xs=0:=by
  rw[trimL_dig b32_one hx.dg];exact ⟨fun h=>(dig_nil b32_one).1 (List.eq_nil_of_length_eq_zero h),fun h=>by rw[h];rfl⟩
 obtain ⟨m,hm⟩:∃m,(trimL xs).length=m:=⟨_,rfl⟩
 rw[hm]at HT hlen
 by_cases h0:m=0
 .have HS:Hid (sgn (zof n (val b32 xs))=0):=by show _=_;rw[hlen.1 h0];cases n<;>rfl
  subst h0;clear hm hlen hx;rw[HS.out]
  go_enter Tryz.func95,Tryz.ntmps95
  go_wp2_with fail
  refine HT.out.mono ?_;rintro e w' ⟨rfl,rfl⟩;go_wp2
  go_ret
  exact ⟨rfl,hb.out⟩
 .have hv:val b32 xs≠0:=fun h=>h0 (hlen.2 h)
  have hq:((m:Int)==0)=false:=by rw[beq_eq_false_iff_ne];omega
  cases n with
  | false =>
   have HS:Hid (sgn (zof false (val b32 xs))=1):=by show _=_;simp[sgn,zof,hv]
   clear hm hlen hx hv;rw[HS.out]
   go_enter Tryz.func95,Tryz.ntmps95
   go_wp2_with fail
   refine HT.out.mono ?_;rintro e w' ⟨rfl,rfl⟩;go_wp2
   go_ret
   exact ⟨rfl,hb.out⟩
  | true =>
   have HS:Hid (sgn (zof true (val b32 xs))=-1):=by
    show _=_
    have h1:zof true (val b32 xs)<0:=by simp[zof];omega
    unfold sgn;rw[if_neg (by omega),if_pos h1]
   clear hm hlen hx hv;rw[HS.out]
   go_enter Tryz.func95,Tryz.ntmps95
   go_wp2_with fail
   refine HT.out.mono ?_;rintro e w' ⟨rfl,rfl⟩;go_wp2
   go_ret
   exact ⟨rfl,hb.out⟩
def cmpZ (a b:Int):Int:=if a<b then -1 else if b<a then 1 else 0
def canon (n:Bool)(xs:List Nat):Bool:=if xs.length=0 then !n else decide (xs.getD (xs.length-1) 0≠0)
def Zi (W:World)(x y:Value)(z:Int):Prop:=∃n A c xs,x=.bool n/\y=.slice A xs.length c/\Arg W A c xs/\zof n (val b32 xs)=z
def Zc (W:World)(x y:Value)(z:Int):Prop:=∃A c,x=.bool (decide (z<0))/\y=.slice A (dig b32 z.natAbs).length c/\Rd .u32 W W.heap.size A (dig b32 z.natAbs)/\(dig b32 z.natAbs).length<=c/\c<=9223372036854775807
def Sm (k:Nat)(z:Int):Prop:=z.natAbs<b32 ^ k
theorem Zi.to {W V:World}{x y:Value}{z:Int}(h:Zi W x y z)(hb:Below W.heap.size W V):Zi V x y z:=by
 obtain ⟨n,A,c,xs,h1,h2,h3,h4⟩:=h;exact ⟨n,A,c,xs,h1,h2,h3.to hb,h4⟩
theorem Zc.to {W V:World}{x y:Value}{z:Int}(h:Zc W x y z)(hb:Below W.heap.size W V):Zc V x y z:=by
 obtain ⟨A,c,h1,h2,h3,h4,h5⟩:=h;exact ⟨A,c,h1,h2,h3.to hb,h4,h5⟩
theorem Sm.add {k:Nat}{a b:Int}(ha:Sm k a)(hb:Sm k b):Sm (k+1) (a+b):=by
 unfold Sm at *;rw[Nat.pow_succ];have:b32 ^ k*2<=b32 ^ k*b32:=Nat.mul_le_mul_left _ (by decide);omega
theorem Sm.mono {k l:Nat}{a:Int}(ha:Sm k a)(h:k<=l):Sm l a:=Nat.lt_of_lt_of_le ha (Nat.pow_le_pow_right (by decide) h)
theorem Sm.mul {k l:Nat}{a b:Int}(ha:Sm k a)(hb:Sm l b):Sm (k+l) (a*b):=by
 unfold Sm at *;rw[Int.natAbs_mul,Nat.pow_add];exact Nat.mul_lt_mul'' ha hb
theorem Sm.neg {k:Nat}{a:Int}(ha:Sm k a):Sm k (-a):=by unfold Sm at *;rwa [Int.natAbs_neg]
theorem zof_dec (z:Int):zof (decide (z<0)) z.natAbs=z:=by
 by_cases h:z<0<;>simp[h,Go.Proofs.YtglhdielkkhefaaGreat.zof]<;>omega
def ZR (w:World)(z:Int)(e:Ending)(w':World):Prop:=∃x y,e=.returned (.agg #[x,y])/\Zc w' x y z/\Below w.heap.size w w'
theorem ZRet.zr {w w':World}{z:Int}{e:Ending}(h:ZRet w z e w'):ZR w z e w':=by
 obtain ⟨A,c,rfl,h1,h2,h3,h4⟩:=h;exact ⟨_,_,rfl,⟨A,c,rfl,rfl,h1,h2,h3⟩,h4⟩
variable {w : World} {x y x' y' : Value} {a b : Int}
theorem add_z (ha:Zi w x y a)(hb:Zi w x' y' b):Calls Tryz.prog 120 #[.agg #[x,y],.agg #[x',y']] w (ZR w (a+b)):=by
 obtain ⟨n,A,c,xs,rfl,rfl,h3,rfl⟩:=ha;obtain ⟨m,B,d,ys,rfl,rfl,k3,rfl⟩:=hb;exact (add_any n m h3 k3).mono fun _ _ h=>h.zr
theorem zof_mul (n m:Bool)(a b:Nat):zof (!(n==m)) (a*b)=zof n a*zof m b:=by
 cases n<;>cases m<;>simp[zof,Int.neg_mul,Int.mul_neg]
theorem mul_z (ha:Zi w x y a)(hb:Zi w x' y' b):Calls Tryz.prog 144 #[.agg #[x,y],.agg #[x',y']] w (ZR w (a*b)):=by
 obtain ⟨n,A,c,xs,rfl,rfl,h3,rfl⟩:=ha;obtain ⟨m,B,d,ys,rfl,rfl,k3,rfl⟩:=hb;have h:=mul_any n m h3 k3;rw[zof_mul]at h;exact h.mono fun _ _ h=>h.zr
theorem neg_z (ha:Zi w x y a):Calls Tryz.prog 123 #[.agg #[x,y]] w (ZR w (-a)):=by
 obtain ⟨n,A,c,xs,rfl,rfl,h3,rfl⟩:=ha;have h:=neg_any n h3;rw[zof_not]at h;exact h.mono fun _ _ h=>h.zr
theorem sign_z (ha:Zi w x y a):Calls Tryz.prog 95 #[.agg #[x,y]] w fun e w'=>e=.returned (.int .i64 (sgn a))/\Below w.heap.size w w':=by
 obtain ⟨n,A,c,xs,rfl,rfl,h3,rfl⟩:=ha;exact sign_any n h3
theorem zof_inj_dec {a b:Int}(h1:decide (a<0)=decide (b<0))(h2:dig b32 a.natAbs=dig b32 b.natAbs):a=b:=by
 have h3:=dig_inj b32_one h2
 by_cases ha:a<0<;>by_cases hb:b<0<;>simp[ha,hb]at h1<;>omega
theorem same_c (ha:Zc w x y a)(hb:Zc w x' y' b):Calls Tryz.prog 52 #[.agg #[x,y],.agg #[x',y']] w fun e w'=>e=.returned (.bool (decide (a=b)))/\Below w.heap.size w w':=by
 obtain ⟨A,c,rfl,rfl,h3,h4,h5⟩:=ha;obtain ⟨A',c',rfl,rfl,k3,k4,k5⟩:=hb;have h:=same_any (decide (a<0)) (decide (b<0)) h3 k3 h4 h5 k4 k5
 rw[show decide (decide (a<0)=decide (b<0)/\dig b32 a.natAbs=dig b32 b.natAbs)=decide (a=b) from by
  rw[decide_eq_decide]
  exact ⟨fun h=>zof_inj_dec h.1 h.2,fun h=>by rw[h];exact ⟨rfl,rfl⟩⟩]at h
 exact h
end Go.Proofs.YtglhdielkkhefaaGreat

namespace Go.Proofs.YtglhdielkkhefaaGreat
open Go.RowKit Go.Shelf
structure Zb (W:World)(g:Nat)(x y:Value)(z:Int):Prop where
 two:Two W g x y
 zi:Zi W x y z
structure Cb (W:World)(g:Nat)(x y:Value)(z:Int):Prop where
 two:Two W g x y
 zc:Zc W x y z
structure Kept (g:Nat)(w V:World):Prop where
 two:∀g' u v,g'≠g->Two w g' u v->Two V g' u v
 zc:∀x y z,Zc w x y z->Zc V x y z
 zi:∀x y z,Zi w x y z->Zi V x y z
 bel:∀B w0,Below B w0 w->B<=g->Below B w0 V
 size:V.heap.size=w.heap.size
theorem Rd.set2' {kd:IntKind}{w:World}{B g:Nat}{A:Option Addr}{xs:List Nat}{x y:Value}(t:Two w g x y)(hx:∀n:Int,x≠.int kd n)(hy:∀n:Int,y≠.int kd n)(h:Rd kd w B A xs)(a b:Value):Rd kd ((w.setCell ⟨g,0,none⟩ a).setCell ⟨g,1,none⟩ b) B A xs:=by
 have h1:(w.setCell ⟨g,0,none⟩ a).cell? ⟨g,1,none⟩=some y:=(World.cell?_setCell_other _ _ _ _ (by simp)).trans t.c1;exact (h.set t.c0 hx a).set h1 hy b
theorem Kept.of {w:World}{g:Nat}{x y:Value}(t:Two w g x y)(hx:∀n:Int,x≠.int .u32 n)(hy:∀n:Int,y≠.int .u32 n)(a b:Value):Kept g w ((w.setCell ⟨g,0,none⟩ a).setCell ⟨g,1,none⟩ b):=by
 have hsz:((w.setCell ⟨g,0,none⟩ a).setCell ⟨g,1,none⟩ b).heap.size=w.heap.size:=by simp[World.setCell]
 refine ⟨fun g' u v hne t'=>t'.far hne _ _,?_,?_,fun B w0 h hg=>(h.setCell (p:=⟨g,0,none⟩) hg _).setCell (p:=⟨g,1,none⟩) hg _,hsz⟩
 .rintro x y z ⟨A,c,h1,h2,h3,h4,h5⟩;exact ⟨A,c,h1,h2,(Rd.set2' t hx hy h3 _ _).more (by rw[hsz];exact Nat.le_refl _),h4,h5⟩
 .rintro x y z ⟨n,A,c,xs,h1,h2,⟨r1,r2,r3,r4,r5⟩,h4⟩;exact ⟨n,A,c,xs,h1,h2,⟨(Rd.set2' t hx hy r1 _ _).more (by rw[hsz];exact Nat.le_refl _),r2,r3,r4,r5⟩,h4⟩
def Fs (x y:Value):Prop:=∃n A k c,x=.bool n/\y=.slice A k c
theorem Zc.fs {w:World}{x y:Value}{z:Int}(h:Zc w x y z):Fs x y:=by
 obtain ⟨A,c,rfl,rfl,_⟩:=h;exact ⟨_,_,_,_,rfl,rfl⟩
theorem Zi.fs {w:World}{x y:Value}{z:Int}(h:Zi w x y z):Fs x y:=by
 obtain ⟨n,A,c,xs,rfl,rfl,_⟩:=h;exact ⟨_,_,_,_,rfl,rfl⟩
theorem Fs.nil : Fs (.bool false) (.slice none 0 0):=⟨_,_,_,_,rfl,rfl⟩
variable {ac : Act} {w : World} {K : Act -> World -> Prop} {Q : Exit -> Act -> World -> Prop} {d : Option Tmp} {ty : TypeId} {pos : String} {after : Array Edge} {guard : Option (Nat × Bool)}
end Go.Proofs.YtglhdielkkhefaaGreat

namespace Go.Proofs.YtglhdielkkhefaaGreat
open Go.RowKit Go.Shelf
structure Hr (w:World)(A:Option Addr)(c:Nat)(xs:List Nat):Prop where
 rd:Rd .i64 w w.heap.size A xs
 dg:Dg b16 xs
 le:xs.length<=c
 cap:c<=9223372036854775807
 small:xs.length<=4294967296
def HRet (w:World)(n:Nat)(e:Ending)(w':World):Prop:=∃A c,e=.returned (.slice A (dig b16 n).length c)/\Rd .i64 w' w'.heap.size A (dig b16 n)/\(dig b16 n).length<=c/\c<=9223372036854775807/\Below w.heap.size w w'
theorem wrap_nat (d:Nat)(h:d<9223372036854775808):IntKind.i64.wrap ((d:Nat):Int)=(d:Int):=IntWalk.i64_in _ (by omega)
def inI (z:Int):Bool:=decide (-9223372036854775808<=z/\z<=9223372036854775807)
def i64v (z:Int):Int:=if inI z then z else 0
theorem inI_t {z:Int}(h1:-9223372036854775808<=z)(h2:z<=9223372036854775807):inI z=true/\i64v z=z:=by
 have h:inI z=true:=decide_eq_true ⟨h1,h2⟩;exact ⟨h,by unfold i64v;rw[h];rfl⟩
theorem inI_f {z:Int}(h1:¬(-9223372036854775808<=z/\z<=9223372036854775807)):inI z=false/\i64v z=0:=by
 have h:inI z=false:=decide_eq_false h1;exact ⟨h,by unfold i64v;rw[h];rfl⟩
theorem trim_long {xs:List Nat}(hd:Dg b32 xs)(h:2<(trimL xs).length):18446744073709551616<=val b32 xs:=by
 refine Classical.byContradiction fun hn=>?_
 have h1:=dig_length_le b32_one (k:=2) (n:=val b32 xs) (by rw[show b32 ^ 2=18446744073709551616 from by decide];omega);rw[<-trimL_dig b32_one hd]at h1;omega
theorem int64_any (n:Bool){A:Option Addr}{c:Nat}{xs:List Nat}{w:World}(hx:Arg w A c xs) :
  Calls Tryz.prog 154 #[.agg #[.bool n,.slice A xs.length c]] w fun e w'=>e=.returned (.tuple #[.int .i64 (i64v (zof n (val b32 xs))),.bool (inI (zof n (val b32 xs)))])/\Below w.heap.size w w':=by
 have hb:=Hd ((Below.refl w.heap.size w).alloc (Nat.le_refl _) (.cells #[.bool n,.slice A xs.length c] 30));have HT:=Hd (trim_q (hx.to hb.out));have hdg:=hx.dg;have hlong:=trim_long hdg;have hv:=val_trimL (b:=b32) xs
 have HU:Hid ((trimL xs).length<=2->Calls Tryz.prog 159 #[.slice A (trimL xs).length c] (w.alloc (.cells #[.bool n,.slice A xs.length c] 30)) fun e w'=>e=.returned (.int .u64 (val b32 (trimL xs):Nat))/\(w.alloc (.cells #[.bool n,.slice A xs.length c] 30))=w'):=fun h =>
  toUint64_any (hx.to hb.out).trim.rd (hx.to hb.out).trim.dg h
 obtain ⟨l,hl⟩:∃l,(trimL xs).length=l:=⟨_,rfl⟩
 obtain ⟨v,ev⟩:∃v,val b32 xs=v:=⟨_,rfl⟩
 have hv64:l<=2->v<18446744073709551616:=fun h=>by
  have h1:=val_lt hx.trim.dg;rw[val_trimL,ev]at h1;have h2:b32 ^ (trimL xs).length<=b32 ^ 2:=Nat.pow_le_pow_right (by decide) (by omega);rw[show b32 ^ 2=18446744073709551616 from by decide]at h2;omega
 have hsl:l<=4294967295:=by rw[<-hl];exact Nat.le_trans (trimL_le xs) hx.small
 rw[hv]at HU;rw[ev]at HU hlong;rw[hl]at HT HU hlong;rw[ev];clear hv ev hl hdg hx
 rcases Nat.lt_or_ge 2 l with h2|h2
 .have hz:=hlong h2;obtain ⟨i1,i2⟩:=inI_f (z:=zof n v) (by cases n<;>simp[zof]<;>omega);rw[i1,i2];clear i1 i2 hz hlong hv64
  go_enter Tryz.func154,Tryz.ntmps154
  go_wp2_with fail
  refine HT.out.mono ?_;rintro e w' ⟨rfl,rfl⟩;go_wp2
  go_ret2
  exact ⟨rfl,hb.out⟩
 .have HU2:=Hd (HU.out h2);have hv:=hv64 h2;clear hlong hv64 HU
  cases n with
  | false =>
   rcases Nat.lt_or_ge 9223372036854775807 v with hbig|hsm
   .obtain ⟨i1,i2⟩:=inI_f (z:=zof false v) (by simp[zof];omega);rw[i1,i2];clear i1 i2
    rcases Nat.lt_or_ge 9223372036854775808 v with hb2|hb2
    all_goals
     go_enter Tryz.func154,Tryz.ntmps154
     go_wp2_with fail
     refine HT.out.mono ?_;rintro e w' ⟨rfl,rfl⟩
     go_wp2_with fail
     refine HU2.out.mono ?_;rintro e w' ⟨rfl,rfl⟩;go_wp2
     go_ret2
     exact ⟨rfl,hb.out⟩
   .obtain ⟨i1,i2⟩:=inI_t (z:=zof false v) (by unfold zof;simp only[Bool.false_eq_true,if_false];omega) (by unfold zof;simp only[Bool.false_eq_true,if_false];omega);rw[i1,i2,show zof false v=(v:Int) from by simp[zof]];have g:=wrap_nat v (by omega);clear i1 i2
    go_enter Tryz.func154,Tryz.ntmps154
    go_wp2_with fail
    refine HT.out.mono ?_;rintro e w' ⟨rfl,rfl⟩
    go_wp2_with fail
    refine HU2.out.mono ?_;rintro e w' ⟨rfl,rfl⟩;go_wp2
    go_ret2
    exact ⟨rfl,hb.out⟩
  | true =>
   rcases Nat.lt_or_ge 9223372036854775808 v with hbig|hsm
   .obtain ⟨i1,i2⟩:=inI_f (z:=zof true v) (by simp[zof];omega);rw[i1,i2];clear i1 i2
    go_enter Tryz.func154,Tryz.ntmps154
    go_wp2_with fail
    refine HT.out.mono ?_;rintro e w' ⟨rfl,rfl⟩
    go_wp2_with fail
    refine HU2.out.mono ?_;rintro e w' ⟨rfl,rfl⟩;go_wp2
    go_ret2
    exact ⟨rfl,hb.out⟩
   .obtain ⟨i1,i2⟩:=inI_t (z:=zof true v) (by unfold zof;simp only[if_true];omega) (by unfold zof;simp only[if_true];omega);obtain ⟨z,ez⟩:∃z,zof true v=z:=⟨_,rfl⟩
    obtain ⟨u,eu⟩:∃u,IntKind.i64.wrap ((v:Nat):Int)=u:=⟨_,rfl⟩
    have g:IntKind.i64.wrap (-u)=z:=by
     rw[<-eu,<-ez,IntKind.wrap_i64,IntKind.wrap_i64];simp[zof];omega
    rw[i1,i2,ez];clear i1 i2 ez
    rcases Nat.lt_or_ge 9223372036854775807 v with hb2|hb2
    all_goals
     go_enter Tryz.func154,Tryz.ntmps154
     go_wp2_with fail
     refine HT.out.mono ?_;rintro e w' ⟨rfl,rfl⟩
     go_wp2_with fail
     refine HU2.out.mono ?_;rintro e w' ⟨rfl,rfl⟩;go_wp2
     go_ret2
     exact ⟨rfl,hb.out⟩
end Go.Proofs.YtglhdielkkhefaaGreat

namespace Go.Proofs.YtglhdielkkhefaaGreat
theorem guess_hi {U D U3 V2 B q:Nat}(hD:V2*B<=D)(hU:U<(U3+1)*B)(hq:q*D<=U):q*V2<=U3:=by
 have h1:q*(V2*B)<=q*D:=Nat.mul_le_mul_left _ hD;have h2:q*V2*B<(U3+1)*B:=by rw[Nat.mul_assoc];omega
 have:=Nat.lt_of_mul_lt_mul_right h2;omega
theorem guess_lo {U D U3 V2 B k:Nat}(hD:D<=(V2+1)*B)(hU:U3*B<=U)(hg:(k+1)*V2<=U3)(hk:k<=V2):k*D<=U:=by
 have h1:k*D<=k*((V2+1)*B):=Nat.mul_le_mul_left _ hD;have h2:k*((V2+1)*B)=(k*V2+k)*B:=by grind
 have h4:k*V2+k<=U3:=by rw[Nat.add_mul,Nat.one_mul]at hg;omega
 have h3:(k*V2+k)*B<=U3*B:=Nat.mul_le_mul_right _ h4;omega
theorem guess_first {top high second low b q:Nat}(h:q*(high*b+second)<=top*b+low)(hl:low<b)(hb:0<b)(hh:0<high):q<=top / high:=by
 rw[Nat.le_div_iff_mul_le hh];have h1:q*high*b<=q*(high*b+second):=by rw[Nat.mul_assoc];exact Nat.mul_le_mul_left _ (Nat.le_add_right _ _)
 have h2:q*high*b<(top+1)*b:=by rw[Nat.add_mul,Nat.one_mul];omega
 have:=Nat.lt_of_mul_lt_mul_right h2;omega
theorem guess_less {top high second low b q g rest:Nat}(ht:rest+g*high=top)(hg:rest*b+low<g*second)(h:q*(high*b+second)<=top*b+low):q<g:=by
 rcases Nat.lt_or_ge q g with h1|h1
 .exact h1
 .have h2:g*(high*b+second)<=q*(high*b+second):=Nat.mul_le_mul_right _ h1;have h3:g*(high*b+second)=g*high*b+g*second:=by grind
  have h4:top*b=rest*b+g*high*b:=by rw[<-ht,Nat.add_mul]
  omega
theorem guess_done {top high second low b g rest:Nat}(ht:rest+g*high=top)(hg:b<=rest∨g*second<=rest*b+low)(hgb:g<b)(hs:second<b):g*(high*b+second)<=top*b+low:=by
 have h3:g*(high*b+second)=g*high*b+g*second:=by grind
 have h4:top*b=rest*b+g*high*b:=by rw[<-ht,Nat.add_mul]
 rcases hg with h|h
 .have h5:g*second<=b*b:=Nat.mul_le_mul (by omega) (by omega);have h6:b*b<=rest*b:=Nat.mul_le_mul_right _ h;omega
 .omega
theorem sub_step {b o k f u r c:Nat}{S T w:Nat}{Q:List Nat}(hb:0<b)(hP:o+k<Q.length)(hv:Q.getD (o+k) 0=w)(hw:w<b)(hc:c<=1)(h:S+b ^ (o+k)*(r+c)=val b Q+b ^ o*(f*T)) :
  ∃d c':Nat,d<b/\c'<=1/\(w:Int)-((f*u+r) % b:Nat)-c=d-b*c' /\
   S+b ^ (o+(k+1))*((f*u+r) / b+c')=val b (Q.set (o+k) d)+b ^ o*(f*(T+b ^ k*u)):=by
 have hm:=Nat.mod_lt (f*u+r) hb;have h2:=Nat.div_add_mod (f*u+r) b;obtain ⟨p,hp⟩:∃p,(f*u+r) % b=p:=⟨_,rfl⟩
 obtain ⟨t,ht⟩:∃t,(f*u+r) / b=t:=⟨_,rfl⟩
 rw[hp]at hm h2;rw[ht]at h2;rw[hp,ht]
 have key:∀d c':Nat,w+b*c'=d+p+c->S+b ^ (o+(k+1))*(t+c')=val b (Q.set (o+k) d)+b ^ o*(f*(T+b ^ k*u)):=by
  intro d c' he;have h1:=val_set (b:=b) Q (o+k) d hP;rw[hv]at h1;have h3:b ^ (o+(k+1))*(t+c')=b ^ (o+k)*(b*t)+b ^ (o+k)*(b*c'):=by rw[<-Nat.add_assoc,Nat.pow_succ];grind
  have h4:b ^ o*(f*(T+b ^ k*u))=b ^ o*(f*T)+b ^ (o+k)*(f*u):=by rw[Nat.pow_add];grind
  have h5:b ^ (o+k)*(b*t+b*c'+w)=b ^ (o+k)*(d+f*u+(r+c)):=by rw[show b*t+b*c'+w=d+f*u+(r+c) from by omega]
  simp only[Nat.mul_add]at h5 h3 h4 h ⊢;omega
 rcases Nat.lt_or_ge w (p+c) with hl|hl
 .refine ⟨w+b-p-c,1,by omega,by omega,by omega,key _ _ (by omega)⟩
 .refine ⟨w-p-c,0,by omega,by omega,by omega,key _ _ (by omega)⟩
theorem back_step {b o k u c:Nat}{S T w:Nat}{Q:List Nat}(hb:0<b)(hP:o+k<Q.length)(hv:Q.getD (o+k) 0=w)(h:val b Q+b ^ (o+k)*c=S+b ^ o*T) :
  val b (Q.set (o+k) ((w+u+c) % b))+b ^ (o+(k+1))*((w+u+c) / b)=S+b ^ o*(T+b ^ k*u):=by
 have h1:=val_set (b:=b) Q (o+k) ((w+u+c) % b) hP;rw[hv]at h1;have h2:=Nat.div_add_mod (w+u+c) b;have h3:b ^ (o+(k+1))*((w+u+c) / b)=b ^ (o+k)*(b*((w+u+c) / b)):=by rw[<-Nat.add_assoc,Nat.pow_succ,Nat.mul_assoc]
 have h4:b ^ o*(T+b ^ k*u)=b ^ o*T+b ^ (o+k)*u:=by rw[Nat.pow_add];grind
 have h5:b ^ (o+k)*(b*((w+u+c) / b))+b ^ (o+k)*((w+u+c) % b)=b ^ (o+k)*w+b ^ (o+k)*u+b ^ (o+k)*c:=by
  rw[<-Nat.mul_add,h2,Nat.mul_add,Nat.mul_add]
 rw[h3,h4];omega
theorem val_split (b:Nat)(xs:List Nat)(k:Nat)(h:k<=xs.length):val b xs=val b (xs.take k)+b ^ k*val b (xs.drop k):=by
 have h1:=val_append (b:=b) (xs.take k) (xs.drop k);rw[List.take_append_drop,List.length_take,Nat.min_eq_left h]at h1;exact h1
theorem val_drop_step (b:Nat)(xs:List Nat)(k:Nat)(h:k<xs.length):val b (xs.drop k)=xs.getD k 0+b*val b (xs.drop (k+1)):=by
 rw[List.drop_eq_getElem_cons h,val,getD_at h]
theorem round_sub {b H D g q L H1 c n1:Nat}(hq:q=H / D)(hD:0<D)(hg1:q<=g)(hH1:H1<n1)(hle:c<=1)(h:H1+g*D=H+n1*c)(hg2:g<=q+1)(hL:L=n1) :
  (c=0->g=q/\H1=H % D)/\(c=1->g=q+1/\H1+D=H % D+n1):=by
 subst hL;have h1:=Nat.div_add_mod H D;rw[<-hq]at h1;have h2:=Nat.mod_lt H hD;have h3:q*D=D*q:=Nat.mul_comm _ _
 constructor
 .rintro rfl;rw[Nat.mul_zero,Nat.add_zero]at h
  rcases Nat.lt_or_ge q g with h4|h4
  .have h5:(q+1)*D<=g*D:=Nat.mul_le_mul_right _ h4;rw[Nat.add_mul,Nat.one_mul]at h5;omega
  .obtain rfl:g=q:=by omega
   exact ⟨rfl,by omega⟩
 .rintro rfl;rw[Nat.mul_one]at h
  rcases Nat.lt_or_ge q g with h4|h4
  .obtain rfl:g=q+1:=by omega
   rw[Nat.add_mul,Nat.one_mul]at h;exact ⟨rfl,by omega⟩
  .obtain rfl:g=q:=by omega
   omega
theorem shl_word {x s:Nat}(hx:x<4294967296)(hs:s<32):x*2 ^ s<18446744073709551616:=by
 have h1:2 ^ s<=2 ^ 31:=Nat.pow_le_pow_right (by decide) (by omega);have h2:x*2 ^ s<=4294967296*2 ^ 31:=Nat.mul_le_mul (by omega) h1;have h3:4294967296*2 ^ 31<18446744073709551616:=by decide
 omega
theorem or_low {c y s:Nat}(hc:c<2 ^ s):c ||| (y*2 ^ s)=c+y*2 ^ s:=by
 have h:=Nat.shiftLeft_add_eq_or_of_lt (i:=s) (b:=c) hc y;rw[Nat.shiftLeft_eq]at h;rw[Nat.or_comm,<-h,Nat.add_comm]
theorem pow_split {s:Nat}(hs:s<32):(4294967296:Nat)=2 ^ s*2 ^ (32-s):=by
 rw[<-Nat.pow_add,show s+(32-s)=32 from by omega]
theorem shl_low {x s:Nat}(hs:s<32):(x*2 ^ s) % 4294967296=(x % 2 ^ (32-s))*2 ^ s:=by
 rw[pow_split hs,Nat.mul_comm x,Nat.mul_mod_mul_left,Nat.mul_comm]
theorem shl_high {x s:Nat}(hs:s<32)(hx:x<4294967296):x*2 ^ s / 4294967296<2 ^ s:=by
 rw[Nat.div_lt_iff_lt_mul (by decide),Nat.mul_comm];exact Nat.mul_lt_mul_of_pos_left hx (Nat.pow_pos (by decide))
theorem shr_step {d V s:Nat}(hs:s<32)(hd:d<4294967296):(d+4294967296*V) / 2 ^ s=((V % 4294967296*4294967296+d) / 2 ^ s) % 4294967296+4294967296*(V / 2 ^ s):=by
 have hp:=pow_split hs;have h2:0<2 ^ s:=Nat.pow_pos (by decide);obtain ⟨P,eP⟩:∃P,2 ^ s=P:=⟨_,rfl⟩
 obtain ⟨R,eR⟩:∃R,2 ^ (32-s)=R:=⟨_,rfl⟩
 rw[eP]at hp h2 ⊢;rw[eR]at hp;have hR:0<R:=by rw[<-eR];exact Nat.pow_pos (by decide)
 have e1:(d+4294967296*V) / P=d / P+R*V:=by
  rw[show d+4294967296*V=d+P*(R*V) from by rw[<-Nat.mul_assoc,<-hp],Nat.add_mul_div_left _ _ h2]
 have e2:(V % 4294967296*4294967296+d) / P=d / P+R*(V % 4294967296):=by
  rw[show V % 4294967296*4294967296+d=d+P*(R*(V % 4294967296)) from by rw[<-Nat.mul_assoc,<-hp,Nat.mul_comm,Nat.add_comm],Nat.add_mul_div_left _ _ h2]
 rw[e1,e2];have hdP:d / P<R:=by rw[Nat.div_lt_iff_lt_mul h2,Nat.mul_comm,<-hp];exact hd
 have e3:V=V % P+P*(V / P):=by have:=Nat.mod_add_div V P;omega
 have e4:V % 4294967296 % P=V % P:=by rw[hp];exact Nat.mod_mul_right_mod V P R
 have e5:(d / P+R*(V % 4294967296)) % 4294967296=d / P+R*(V % P):=by
  have h3:=Nat.mod_lt V h2
  have h5:R*(V % P)+R<=R*P:=by
   have:=Nat.mul_le_mul_left R h3;rw[Nat.succ_eq_add_one,Nat.mul_add,Nat.mul_one]at this;exact this
  have h7:R*P=4294967296:=by rw[hp,Nat.mul_comm]
  have h6:V % 4294967296=V % P+P*(V % 4294967296 / P):=by have:=Nat.mod_add_div (V % 4294967296) P;rw[e4]at this;omega
  have h8:R*(V % 4294967296)=R*(V % P)+4294967296*(V % 4294967296 / P):=by
   rw[congrArg (R*·) h6,Nat.mul_add,<-Nat.mul_assoc,h7]
  rw[h8,<-Nat.add_assoc,Nat.add_mul_mod_self_left];exact Nat.mod_eq_of_lt (by omega)
 rw[e5]
 have h9:R*V=R*(V % P)+4294967296*(V / P):=by
  rw[congrArg (R*·) e3,Nat.mul_add,<-Nat.mul_assoc,show R*P=4294967296 from by rw[hp,Nat.mul_comm]]
 omega
def shrRow (s:Nat):List Nat->List Nat
 | []=>[]
 | d::r=>((r.getD 0 0*4294967296+d) / 2 ^ s) % 4294967296::shrRow s r
theorem shrRow_length (s:Nat)(xs:List Nat):(shrRow s xs).length=xs.length:=by
 induction xs with
 | nil=>rfl
 | cons d r ih=>simp[shrRow,ih]
theorem val_mod_head (xs:List Nat)(h:Dg b32 xs):val b32 xs % 4294967296=xs.getD 0 0:=by
 cases xs with
 | nil=>rfl
 | cons d r =>
  have:=h d (by simp)
  show (d+b32*val b32 r) % 4294967296=d
  unfold b32 at *;rw[Nat.add_mul_mod_self_left];exact Nat.mod_eq_of_lt this
theorem val_shrRow {s:Nat}(hs:s<32):∀{xs:List Nat},Dg b32 xs->val b32 (shrRow s xs)=val b32 xs / 2 ^ s
 | [],_=>by simp[shrRow,val]
 | d::r,h=>by
  have hr:Dg b32 r:=fun e he=>h e (List.mem_cons_of_mem _ he)
  have ih:=val_shrRow hs hr
  show _+b32*val b32 (shrRow s r)=(d+b32*val b32 r) / 2 ^ s
  rw[ih,show b32=4294967296 from rfl,shr_step hs (h d (by simp)),<-val_mod_head r hr];rfl
theorem Dg_shrRow (s:Nat)(xs:List Nat):Dg b32 (shrRow s xs):=by
 induction xs with
 | nil=>exact Dg.nil
 | cons d r ih=>exact Dg.cons (Nat.mod_lt _ (by decide)) ih
theorem shl_round {i x s c T:Nat}{Q:List Nat}(hs:s<32)(hP:i+1<Q.length)(hv:Q.getD i 0=c)(hv2:Q.getD (i+1) 0=0)(h:val b32 Q=T*2 ^ s) :
  val b32 ((Q.set i (c+x*2 ^ s % 4294967296)).set (i+1) (x*2 ^ s / 4294967296))=(T+b32 ^ i*x)*2 ^ s:=by
 have h1:=val_set (b:=b32) Q i (c+x*2 ^ s % 4294967296) (by omega);have h2:=val_set (b:=b32) (Q.set i (c+x*2 ^ s % 4294967296)) (i+1) (x*2 ^ s / 4294967296) (by rw[List.length_set];exact hP);rw[getD_set_other Q _ (by omega),hv2]at h2;rw[hv]at h1;have h3:=Nat.div_add_mod (x*2 ^ s) 4294967296;obtain ⟨W,eW⟩:∃W,x*2 ^ s=W:=⟨_,rfl⟩
 rw[eW]at h1 h2 h3 ⊢;have h4:b32 ^ (i+1)*(W / 4294967296)=b32 ^ i*(4294967296*(W / 4294967296)):=by rw[Nat.pow_succ,Nat.mul_assoc];rfl
 have h5:b32 ^ i*(4294967296*(W / 4294967296))+b32 ^ i*(W % 4294967296)=b32 ^ i*W:=by rw[<-Nat.mul_add,h3]
 have h6:(T+b32 ^ i*x)*2 ^ s=T*2 ^ s+b32 ^ i*W:=by rw[Nat.add_mul,Nat.mul_assoc,eW]
 rw[Nat.mul_add]at h1;omega
section
variable {b i n : Nat} {R R1 R2 : List Nat}
theorem take_out (h:∀j,j<i∨i+n<j->R1.getD j 0=R.getD j 0)(hl:R1.length=R.length):R1.take i=R.take i:=by
 apply List.ext_getElem
 .simp[hl]
 .intro j h1 h2;simp only[List.length_take]at h1 h2;have:=h j (.inl (by omega));rw[getD_at (by omega),getD_at (by omega)]at this
  simpa using this
theorem drop_out (h:∀j,j<i∨i+n<j->R1.getD j 0=R.getD j 0)(hl:R1.length=R.length):R1.drop (i+(n+1))=R.drop (i+(n+1)):=by
 apply List.ext_getElem
 .simp[hl]
 .intro j h1 h2;simp only[List.length_drop]at h1 h2;have:=h (i+(n+1)+j) (.inr (by omega));rw[getD_at (by omega),getD_at (by omega)]at this
  simpa using this
theorem above_zero {D:Nat}(hb:0<b)(hi:i+n<R.length)(hD:D<b ^ n)(h:val b (R.drop (i+1))<D):val b (R.drop (i+(n+1)))=0:=by
 have h1:=val_split b (R.drop (i+1)) n (by simp;omega);rw[List.drop_drop,show i+1+n=i+(n+1) from by omega]at h1
 rcases Nat.eq_zero_or_pos (val b (R.drop (i+(n+1)))) with h2|h2
 .exact h2
 .have h3:b ^ n*1<=b ^ n*val b (R.drop (i+(n+1))):=Nat.mul_le_mul_left _ h2;omega
theorem part_lt (hd:Dg b R)(hi:i+n<R.length)(h0:val b (R.drop (i+(n+1)))=0):val b (R.drop i)<b ^ (n+1):=by
 have h1:=val_split b (R.drop i) (n+1) (by simp;omega);rw[List.drop_drop,h0,Nat.mul_zero,Nat.add_zero]at h1;have h2:Dg b ((R.drop i).take (n+1)):=fun d hd'=>hd d (List.mem_of_mem_drop (List.mem_of_mem_take hd'))
 have h3:=val_lt h2;rw[List.length_take,List.length_drop,Nat.min_eq_left (by omega)]at h3;omega
theorem part_val (hi:i+n<R.length)(h0:val b (R.drop (i+(n+1)))=0):val b ((R.drop i).take (n+1))=val b (R.drop i):=by
 have h1:=val_split b (R.drop i) (n+1) (by simp;omega);rw[List.drop_drop,h0,Nat.mul_zero,Nat.add_zero]at h1;exact h1.symm
theorem round_one {D g c:Nat}(hb:0<b)(hi:i+n<R.length)(hR1:Dg b R1)(hl:R1.length=R.length)(hout:∀j,j<i∨i+n<j->R1.getD j 0=R.getD j 0)(hD:D<b ^ n)(hD0:0<D)
  (hpre:val b (R.drop (i+1))<D) (hsub:val b R+b ^ (i+(n+1))*c=val b R1+b ^ i*(g*D)) (hc:c<=1) (hg1:val b (R.drop i) / D<=g) (hg2:g<=val b (R.drop i) / D+1) :
  (c=0->g=val b (R.drop i) / D/\val b (R1.drop i)=val b (R.drop i) % D)/\(c=1->g=val b (R.drop i) / D+1/\val b (R1.drop i)+D=val b (R.drop i) % D+b ^ (n+1)):=by
 have e1:=val_split b R i (by omega);have e2:=val_split b R1 i (by omega);rw[take_out hout hl]at e2;have h0:=above_zero hb hi hD hpre;have h1:val b (R1.drop (i+(n+1)))=0:=by rw[drop_out hout hl];exact h0
 have h2:=part_lt hR1 (by omega) h1
 have h3:b ^ i*(val b (R.drop i)+b ^ (n+1)*c)=b ^ i*(val b (R1.drop i)+g*D):=by
  rw[Nat.mul_add,Nat.mul_add,<-Nat.mul_assoc,<-Nat.pow_add];omega
 have h4:=Nat.eq_of_mul_eq_mul_left (Nat.pow_pos hb) h3;exact round_sub (b:=b) rfl hD0 hg1 h2 hc h4.symm hg2 rfl
theorem round_two {D c r:Nat}(hb:0<b)(hi:i+n<R1.length)(hR2:Dg b R2)(hl:R2.length=R1.length)(hout:∀j,j<i∨i+n<j->R2.getD j 0=R1.getD j 0)(h0:val b (R1.drop (i+(n+1)))=0)
  (hadd:val b R2+b ^ (i+(n+1))*c=val b R1+b ^ i*D) (hc:c<=1) (h:val b (R1.drop i)+D=r+b ^ (n+1)):val b (R2.drop i)=r:=by
 have e1:=val_split b R1 i (by omega);have e2:=val_split b R2 i (by omega);rw[take_out hout hl]at e2;have h1:val b (R2.drop (i+(n+1)))=0:=by rw[drop_out hout hl];exact h0
 have h2:=part_lt hR2 (by omega) h1
 have h3:b ^ i*(val b (R2.drop i)+b ^ (n+1)*c)=b ^ i*(val b (R1.drop i)+D):=by
  rw[Nat.mul_add,Nat.mul_add,<-Nat.mul_assoc,<-Nat.pow_add];omega
 have h4:=Nat.eq_of_mul_eq_mul_left (Nat.pow_pos hb) h3;rw[h]at h4
 rcases Nat.le_one_iff_eq_zero_or_eq_one.1 hc with rfl|rfl
 .omega
 .omega
theorem round_end {D X0 Vq:Nat}(hi:i<=R.length)(hi2:i<=R2.length)(ht:R2.take i=R.take i)(hX:X0=val b R+b ^ (i+1)*(D*Vq))(hr:val b (R2.drop i)=val b (R.drop i) % D) :
  X0=val b R2+b ^ i*(D*(val b (R.drop i) / D+b*Vq)):=by
 have e1:=val_split b R i hi;have e2:=val_split b R2 i hi2;rw[ht,hr]at e2;have h1:=Nat.div_add_mod (val b (R.drop i)) D;have h2:b ^ i*val b (R.drop i)=b ^ i*(D*(val b (R.drop i) / D))+b ^ i*(val b (R.drop i) % D):=by rw[<-Nat.mul_add,h1]
 have h3:b ^ i*(D*(val b (R.drop i) / D+b*Vq))=b ^ i*(D*(val b (R.drop i) / D))+b ^ (i+1)*(D*Vq):=by
  rw[Nat.pow_succ];grind
 omega
end
theorem top_two (b:Nat)(xs:List Nat)(m:Nat)(h:xs.length=m+2):val b xs=val b (xs.take m)+b ^ m*(xs.getD m 0+b*xs.getD (m+1) 0):=by
 rw[val_split b xs m (by omega),val_drop_step b xs m (by omega),val_drop_step b xs (m+1) (by omega),List.drop_of_length_le (by omega)];simp[val]
theorem top_three (b:Nat)(xs:List Nat)(m:Nat)(h:xs.length=m+3):val b xs=val b (xs.take m)+b ^ m*(xs.getD m 0+b*(xs.getD (m+1) 0+b*xs.getD (m+2) 0)):=by
 rw[val_split b xs m (by omega),val_drop_step b xs m (by omega),val_drop_step b xs (m+1) (by omega),val_drop_step b xs (m+2) (by omega),List.drop_of_length_le (by omega)];simp[val]
theorem guess_both {b m g:Nat}{ps ds:List Nat}(hb:0<b)(dp:Dg b ps)(dd:Dg b ds)(lp:ps.length=m+3)(ld:ds.length=m+2)(hh:0<ds.getD (m+1) 0)(hU:val b ps<b*val b ds)(hgb:g<b)
  (hg:g*(ds.getD (m+1) 0*b+ds.getD m 0)<=(ps.getD (m+2) 0*b+ps.getD (m+1) 0)*b+ps.getD m 0)
  (hall:∀q,q<b->q*(ds.getD (m+1) 0*b+ds.getD m 0)<=(ps.getD (m+2) 0*b+ps.getD (m+1) 0)*b+ps.getD m 0->q<=g) :
  val b ps / val b ds<=g/\g<=val b ps / val b ds+1:=by
 have e1:=top_two b ds m ld;have e2:=top_three b ps m lp
 have l1:val b (ds.take m)<b ^ m:=by
  have:=val_lt (dd.take m)
  rwa [List.length_take,Nat.min_eq_left (by omega)]at this
 have l2:val b (ps.take m)<b ^ m:=by
  have:=val_lt (dp.take m)
  rwa [List.length_take,Nat.min_eq_left (by omega)]at this
 obtain ⟨V2,eV⟩:∃V2,ds.getD (m+1) 0*b+ds.getD m 0=V2:=⟨_,rfl⟩
 obtain ⟨U3,eU⟩:∃U3,(ps.getD (m+2) 0*b+ps.getD (m+1) 0)*b+ps.getD m 0=U3:=⟨_,rfl⟩
 rw[eV,eU]at hg;simp only[eV,eU]at hall;have f1:ds.getD m 0+b*ds.getD (m+1) 0=V2:=by rw[<-eV,Nat.mul_comm];omega
 have f2:ps.getD m 0+b*(ps.getD (m+1) 0+b*ps.getD (m+2) 0)=U3:=by rw[<-eU];grind
 rw[f1]at e1;rw[f2]at e2
 have hV:b<=V2:=by
  have:=Nat.le_mul_of_pos_left b hh;omega
 have hD:V2*b ^ m<=val b ds:=by rw[e1,Nat.mul_comm V2];exact Nat.le_add_left _ _
 have hD2:val b ds<=(V2+1)*b ^ m:=by rw[e1,Nat.add_mul,Nat.one_mul,Nat.mul_comm V2];omega
 have hU1:val b ps<(U3+1)*b ^ m:=by rw[e2,Nat.add_mul,Nat.one_mul,Nat.mul_comm U3];omega
 have hU2:U3*b ^ m<=val b ps:=by rw[e2,Nat.mul_comm U3];exact Nat.le_add_left _ _
 have hD0:0<val b ds:=by
  have:0<V2*b ^ m:=Nat.mul_pos (by omega) (Nat.pow_pos hb);omega
 constructor
 .refine hall _ ?_ (guess_hi hD hU1 (Nat.div_mul_le_self _ _));rw[Nat.div_lt_iff_lt_mul hD0];exact hU
 .rcases Nat.eq_zero_or_pos g with h|h
  .rw[h];exact Nat.zero_le _
  .obtain ⟨k,rfl⟩:∃k,g=k+1:=⟨g-1,by omega⟩
   have:=guess_lo hD2 hU2 hg (by omega);have:=(Nat.le_div_iff_mul_le hD0).2 this;omega
theorem long_end {x y s r q:Nat}(h:x*2 ^ s=r+y*2 ^ s*q)(hr:r<y*2 ^ s):q=x / y/\r / 2 ^ s=x % y:=by
 have hp:0<2 ^ s:=Nat.pow_pos (by decide);obtain ⟨P,eP⟩:∃P,2 ^ s=P:=⟨_,rfl⟩
 rw[eP]at h hr hp ⊢
 have hy:0<y:=by
  rcases Nat.eq_zero_or_pos y with h0|h0
  .subst h0;rw[Nat.zero_mul]at hr;omega
  .exact h0
 have e1:y*P*q=(y*q)*P:=by grind
 have h1:y*q<=x:=by
  rcases Nat.lt_or_ge x (y*q) with h2|h2
  .have:=Nat.mul_le_mul_right P h2;rw[Nat.succ_eq_add_one,Nat.add_mul]at this;omega
  .exact h2
 obtain ⟨t,rfl⟩:∃t,x=y*q+t:=⟨x-y*q,by omega⟩
 rw[Nat.add_mul,e1]at h;have h2:r=t*P:=by omega
 subst h2;have h3:t<y:=Nat.lt_of_mul_lt_mul_right hr;refine ⟨?_,?_⟩
 .rw[Nat.mul_add_div hy,Nat.div_eq_of_lt h3,Nat.add_zero]
 .rw[Nat.mul_div_cancel _ hp,Nat.mul_add_mod,Nat.mod_eq_of_lt h3]
theorem top_one (b:Nat)(xs:List Nat)(m:Nat)(h:xs.length=m+1):val b xs=val b (xs.take m)+b ^ m*xs.getD m 0:=by
 rw[val_split b xs m (by omega),val_drop_step b xs m (by omega),List.drop_of_length_le (by omega)];simp[val]
theorem shifted_top {ys:List Nat}{s n2 t v:Nat}(hs:s<32)(hn:ys.length=n2+2)(dy:Dg b32 ys)(ht:ys.getD (n2+1) 0=t)(h1:2147483648<=t*2 ^ s)(h2:t*2 ^ s<4294967296)(hv:v=val b32 ys*2 ^ s) :
  b32 ^ (n2+1)*2147483648<=v/\v<b32 ^ (n2+2):=by
 have e1:=top_one b32 ys (n2+1) hn;rw[ht]at e1
 have l1:val b32 (ys.take (n2+1))<b32 ^ (n2+1):=by
  have:=val_lt (dy.take (n2+1))
  rwa [List.length_take,Nat.min_eq_left (by omega)]at this
 have hp:0<2 ^ s:=Nat.pow_pos (by decide);have hps:=pow_split hs
 have ht2:(t+1)*2 ^ s<=4294967296:=by
  have h3:t<2 ^ (32-s):=by
   rw[hps,Nat.mul_comm (2 ^ s)]at h2;exact Nat.lt_of_mul_lt_mul_right h2
  have h4:=Nat.mul_le_mul_right (2 ^ s) h3;rw[Nat.succ_eq_add_one,Nat.mul_comm (2 ^ (32-s)),<-hps]at h4;exact h4
 subst hv
 constructor
 .have h3:b32 ^ (n2+1)*(t*2 ^ s)<=val b32 ys*2 ^ s:=by
   rw[<-Nat.mul_assoc];exact Nat.mul_le_mul_right _ (by omega)
  have h4:=Nat.mul_le_mul_left (b32 ^ (n2+1)) h1;omega
 .have h3:val b32 ys<b32 ^ (n2+1)*(t+1):=by rw[Nat.mul_add,Nat.mul_one];omega
  have h4:=Nat.mul_lt_mul_of_pos_right h3 hp;rw[Nat.mul_assoc]at h4;have h5:=Nat.mul_le_mul_left (b32 ^ (n2+1)) ht2;have h6:b32 ^ (n2+2)=b32 ^ (n2+1)*4294967296:=by rw[show n2+2=(n2+1)+1 from rfl,Nat.pow_succ];rfl
  omega
theorem dig_len_eq {b v n:Nat}(hb:1<b)(h1:b ^ n<=v)(h2:v<b ^ (n+1)):(dig b v).length=n+1:=by
 have h3:=dig_length_le hb h2;have h4:=val_lt (Dg_dig hb v);rw[val_dig hb]at h4
 rcases Nat.lt_or_ge (dig b v).length (n+1) with h5|h5
 .have:=Nat.pow_le_pow_right (n:=b) (by omega) (show (dig b v).length<=n by omega);omega
 .omega
theorem start_lt {b n m k V D P:Nat}{R:List Nat}(hb:0<b)(hk:k<=R.length)(hR:val b R=V*P)(hV:V<b ^ (k+n))(hD:b ^ n*P<=D)(hP:0<P):val b (R.drop k)<D:=by
 have e1:=val_split b R k hk
 have h1:V*P<b ^ k*(b ^ n*P):=by
  rw[<-Nat.mul_assoc,<-Nat.pow_add];exact Nat.mul_lt_mul_of_pos_right hV hP
 have h2:b ^ k*val b (R.drop k)<b ^ k*(b ^ n*P):=by omega
 exact Nat.lt_of_lt_of_le (Nat.lt_of_mul_lt_mul_left h2) hD
end Go.Proofs.YtglhdielkkhefaaGreat

namespace Go.Proofs.YtglhdielkkhefaaGreat
def divs (d:Nat):List Nat->List Nat×Nat
 | []=>([],0)
 | x::r=>(((divs d r).2*4294967296+x) / d::(divs d r).1,((divs d r).2*4294967296+x) % d)
theorem divs_length (d:Nat):∀xs,(divs d xs).1.length=xs.length
 | []=>rfl
 | x::r=>by simp[divs,divs_length d r]
theorem divs_lt {d:Nat}(hd:0<d):∀xs,(divs d xs).2<d
 | []=>hd
 | x::r=>Nat.mod_lt _ hd
theorem divs_dg {d:Nat}(hd:0<d):∀{xs},Dg b32 xs->Dg b32 (divs d xs).1
 | [],_=>Dg.nil
 | x::r,h=>by
  have h1:=h x (by simp);have h2:=divs_lt hd r;refine Dg.cons ?_ (divs_dg hd fun e he=>h e (List.mem_cons_of_mem _ he));unfold b32 at h1 ⊢;rw[Nat.div_lt_iff_lt_mul hd];have h3:((divs d r).2+1)*4294967296<=d*4294967296:=Nat.mul_le_mul_right _ h2;rw[Nat.mul_comm 4294967296 d];omega
theorem divs_val {d:Nat} : ∀xs,val b32 xs=val b32 (divs d xs).1*d+(divs d xs).2
 | []=>by simp[divs,val]
 | x::r=>by
  have ih:=divs_val (d:=d) r;have h:=Nat.div_add_mod ((divs d r).2*4294967296+x) d;simp only[divs,val];rw[ih,Nat.add_mul,Nat.mul_assoc b32,Nat.mul_add];generalize val b32 (divs d r).1*d=a;rw[Nat.mul_comm d]at h;generalize ((divs d r).2*4294967296+x) / d*d=b at h ⊢;generalize ((divs d r).2*4294967296+x) % d=e at h ⊢;have h2:b32*(divs d r).2=(divs d r).2*4294967296:=Nat.mul_comm _ _;rw[h2];omega
theorem divs_quot {d:Nat}(hd:0<d)(xs:List Nat):val b32 (divs d xs).1=val b32 xs / d/\(divs d xs).2=val b32 xs % d:=by
 have h1:=divs_val (d:=d) xs;have h2:=divs_lt hd xs;rw[h1]
 constructor
 .rw[Nat.add_comm,Nat.add_mul_div_right _ _ hd,Nat.div_eq_of_lt h2];omega
 .rw[Nat.add_comm,Nat.add_mul_mod_self_right,Nat.mod_eq_of_lt h2]
def divRow (d:Nat)(xs:List Nat)(m:Nat):List Nat:=xs.take m++(divs d (xs.drop m)).1
theorem divRow_length (d:Nat)(xs:List Nat)(m:Nat)(h:m<=xs.length):(divRow d xs m).length=xs.length:=by
 simp[divRow,divs_length];omega
theorem divRow_full (d:Nat)(xs:List Nat):divRow d xs xs.length=xs:=by simp[divRow,divs]
theorem divRow_zero (d:Nat)(xs:List Nat):divRow d xs 0=(divs d xs).1:=by simp[divRow]
theorem divs_step (d:Nat)(xs:List Nat)(m:Nat)(h:m<xs.length):divs d (xs.drop m) =
  (((divs d (xs.drop (m+1))).2*4294967296+xs[m]) / d::(divs d (xs.drop (m+1))).1,((divs d (xs.drop (m+1))).2*4294967296+xs[m]) % d):=by
 rw[List.drop_eq_getElem_cons h];rfl
theorem divRow_step (d:Nat)(xs:List Nat)(m:Nat)(h:m<xs.length):divRow d xs m=(divRow d xs (m+1)).set m (((divs d (xs.drop (m+1))).2*4294967296+xs[m]) / d):=by
 unfold divRow;rw[divs_step d xs m h,take_snoc xs m h,List.append_assoc,List.set_append_right _ _ (List.length_take_le _ _)];have hl:(xs.take m).length=m:=by simp;omega
 rw[hl,Nat.sub_self];rfl
open Go.RowKit Go.Shelf
attribute [local go_sem] Oper.semAt_some
theorem or_shift (r x:Nat)(hr:r<4294967296)(hx:x<4294967296):(r*4294967296) ||| x=r*4294967296+x:=by
 have h:=Nat.two_pow_add_eq_or_of_lt (i:=32) (b:=x) (by simpa using hx) r;rw[Nat.mul_comm]at h
 simpa using h.symm
theorem divWord_any (g sz c d:Nat)(xs:List Nat)(w:World)(hb:Buf .u32 89 g sz xs w)(dx:Dg b32 xs)(hd:0<d)(hd2:d<4294967296)(hxc:xs.length<=c)(hc:c<=9223372036854775807) :
  CallsIn Fence.wide 3 Tryz.prog 176 #[.slice (some ⟨g,0,none⟩) xs.length c,.int .u32 (d:Nat)] w fun e w'=>e=.returned (.int .u32 ((divs d xs).2:Nat))/\Buf .u32 89 g sz (divs d xs).1 w'/\w.grownBy w' (some g):=by
 have hg:=hb.lt;refine callsIn_of_wp_marks Tryz.func176 rfl trivial ?_ rfl;simp only[Tryz.ntmps176,List.size_toArray,List.length_cons,List.length_nil,Nat.reduceAdd,Nat.reduceSub,Array.replicate_succ,Array.replicate_zero,List.push_toArray,List.append_toArray,List.nil_append,List.cons_append]
 gi_wp2_with (refine ⟨trivial,?_⟩;gi_at_call 169;refine (callsIn_wide.2 (backward_any _ _ _ _)).mono ?_;rintro e w' ⟨rfl,rfl⟩)
 obtain ⟨W0,hW0⟩:∃W0,W0=(((w.alloc (.cells #[.slice (some ⟨g,0,none⟩) xs.length c] 28)).alloc (.cells #[.int .u32 (d:Nat)] 89)).alloc (.cells #[.int .u64 0] 111)).alloc (.cells #[.slice (some ⟨g,0,none⟩) xs.length c] 28):=⟨_,rfl⟩
 rw[<-hW0];have bX:Boxed W0 w.heap.size 28 (.slice (some ⟨g,0,none⟩) xs.length c):=by rw[hW0];exact (((Boxed.new w _ _).alloc _).alloc _).alloc _
 have bD:Boxed W0 (w.heap.size+1) 89 (.int .u32 (d:Nat)):=by
  have h:=Boxed.new (w.alloc (.cells #[.slice (some ⟨g,0,none⟩) xs.length c] 28)) 89 (.int .u32 (d:Nat));rw[szA]at h;rw[hW0];exact (h.alloc _).alloc _
 have bR:Boxed W0 (w.heap.size+1+1) 111 (.int .u64 0):=by
  have h:=Boxed.new ((w.alloc (.cells #[.slice (some ⟨g,0,none⟩) xs.length c] 28)).alloc (.cells #[.int .u32 (d:Nat)] 89)) 111 (.int .u64 0);rw[szA,szA]at h;rw[hW0];exact h.alloc _
 have bB:Boxed W0 (w.heap.size+1+1+1) 28 (.slice (some ⟨g,0,none⟩) xs.length c):=by
  have h:=Boxed.new (((w.alloc (.cells #[.slice (some ⟨g,0,none⟩) xs.length c] 28)).alloc (.cells #[.int .u32 (d:Nat)] 89)).alloc (.cells #[.int .u64 0] 111)) 28 (.slice (some ⟨g,0,none⟩) xs.length c);rw[szA,szA,szA]at h;rw[hW0];exact h
 have hg0:w.grownBy W0 (some g):=by
  rw[hW0];exact Grown.trans (Grown.trans (Grown.trans (World.grownBy_alloc _ _ _) (World.grownBy_alloc _ _ _)) (World.grownBy_alloc _ _ _)) (World.grownBy_alloc _ _ _)
 have hbuf0:Buf .u32 89 g sz xs W0:=by
  rw[hW0];exact (((hb.kept (World.grownBy_alloc _ _ none) (by simp)).kept (World.grownBy_alloc _ _ none) (by simp)).kept (World.grownBy_alloc _ _ none) (by simp)).kept (World.grownBy_alloc _ _ none) (by simp)
 have hs0:W0.heap.size=w.heap.size+4:=by rw[hW0];simp
 clear hW0
 refine wp_rounds (gf:=179) (lb:=#[.pointer (some ⟨w.heap.size+1+1+1,0,none⟩)]) ?hg (enters_of Tryz.func179 (by kernel_rfl) rfl)
  (N:=xs.length) (enc:=backE xs) (Keep:=fun k=>KeepAt (backS (w.heap.size+1+1+1) (some ⟨g,0,none⟩) (xs.length-1-k)))
  (fun W hW=>backward_gives (w.heap.size+1+1+1) w.heap.size c (some ⟨g,0,none⟩) xs hxc hc W ((hW.cell (p:=⟨w.heap.size+1+1+1,0,none⟩) (by show w.heap.size+1+1+1<_;omega)).trans bB.cell) ((hbuf0.rd hg).below (hW.mono (by omega))))
  (fun k A₁ B₁ o o' _ h=>keepAt_round (backS_lt (hbuf0.rd hg) (by omega) (by omega) (by omega)) o o' h)
  ?hps
  (fun k W=>Buf .u32 89 g sz (divRow d xs (xs.length-k)) W/\Boxed W w.heap.size 28 (.slice (some ⟨g,0,none⟩) xs.length c)/\Boxed W (w.heap.size+1) 89 (.int .u32 (d:Nat)) /\
   Boxed W (w.heap.size+1+1) 111 (.int .u64 ((divs d (xs.drop (xs.length-k))).2:Nat))/\Boxed W (w.heap.size+1+1+1) 28 (.slice (some ⟨g,0,none⟩) xs.length c)/\w.grownBy W (some g))
  (fun _ _ _=>False)
  ?hI ?hIx ⟨by rw[Nat.sub_zero,divRow_full];exact hbuf0,bX,bD,by rw[Nat.sub_zero,List.drop_length];exact bR,bB,hg0⟩
  (fun k=>{ tmps:=#[.slice (some ⟨g,0,none⟩) xs.length c,.int .u32 (d:Nat),.pointer (some ⟨w.heap.size,0,none⟩),.pointer (some ⟨w.heap.size+1,0,none⟩),.int .u32 0,.pointer (some ⟨w.heap.size+1+1,0,none⟩),.int .i64 ((xs.length-1-k:Nat):Int),.int .u32 ((xs.getD (xs.length-1-k) 0:Nat):Int),undef,
   .slice (some ⟨g,0,none⟩) xs.length c,.func (.func 179) #[] #[.pointer (some ⟨w.heap.size+1+1+1,0,none⟩)],.int .i64 ((xs.length-1-k:Nat):Int),.int .u32 ((xs.getD (xs.length-1-k) 0:Nat):Int),
   undef,undef,undef,undef,undef,undef,undef,undef,undef,undef,undef,undef,undef,undef,undef,undef,undef,undef,undef],defers:=[] }) ?assign ?body ?done ?stop
 case hg=>rfl
 case hps=>exact fun _=>rfl
 case hI =>
  exact OwnFrom.and (Own.from (buf_own _ _ _ _ _) _) (OwnFrom.and (Own.from (boxed_own _ _ _) _) (OwnFrom.and (Own.from (boxed_own _ _ _) _) (OwnFrom.and (Own.from (boxed_own _ _ _) _) (OwnFrom.and (Own.from (boxed_own _ _ _) _) (ownFrom_grown (by omega))))))
 case hIx=>exact fun _ _ _ _ _ h _ _=>h
 case assign =>
  intro l k W K hK;unfold backE
  gi_wp2
  exact hK
 case body =>
  rintro l k W hlt ⟨hbf,cX,cD,cR,cB,hgr⟩ hk;obtain ⟨m,hm⟩:∃m,xs.length-1-k=m:=⟨_,rfl⟩
  have hm1:xs.length-k=m+1:=by omega
  have hm2:xs.length-(k+1)=m:=by omega
  simp only[hm,hm1,hm2]at hbf cR ⊢;have hmx:m<xs.length:=by omega
  have hx:xs.getD m 0<4294967296:=by rw[getD_at hmx];exact dx.at_ hmx
  have hr:=divs_lt hd (xs.drop (m+1));have HST:=Hd (divs_step d xs m hmx);have HRW:=Hd (divRow_step d xs m hmx);rw[<-getD_at hmx]at HST HRW;have hml:m<(divRow d xs (m+1)).length:=by rw[divRow_length d xs _ (by omega)];exact hmx
  have cM:=hbf.cell hml;have fM:=hbf.frozen m;obtain ⟨x,HX⟩:∃x,Hid (xs.getD m 0=x):=⟨_,rfl⟩
  obtain ⟨r,HR⟩:∃r,Hid ((divs d (xs.drop (m+1))).2=r):=⟨_,rfl⟩
  rw[HX.out]at hx HST HRW ⊢;rw[HR.out]at hr HST HRW cR;obtain ⟨o,HO⟩:∃o,(divRow d xs (m+1))[m]=o:=⟨_,rfl⟩
  rw[HO]at cM;have eX:=cX.cell;have eD:=cD.cell;have eR:=cR.cell;have fR:=cR.frozen;obtain ⟨t,ht⟩:∃t,r*4294967296+x=t:=⟨_,rfl⟩
  have HT:Hid (bits .or .u64 ((r:Int)*4294967296) (x:Int)=(t:Int)):=by
   show _=_
   have h:=bits_or_u64_nat (r*4294967296) x (by omega) (by omega);rw[or_shift r x (by omega) hx,ht]at h
   simpa using h
  have hrm:(r+1)*4294967296<=d*4294967296:=Nat.mul_le_mul_right _ hr;have htd:t<d*4294967296:=by omega
  have htl:t<18446744073709551616:=by omega
  rw[ht]at HST HRW;obtain ⟨q,hq⟩:∃q,t / d=q:=⟨_,rfl⟩
  obtain ⟨e,he⟩:∃e,t % d=e:=⟨_,rfl⟩
  have hql:q<4294967296:=by rw[<-hq];rw[Nat.div_lt_iff_lt_mul hd,Nat.mul_comm];exact htd
  have hel:e<d:=by rw[<-he];exact Nat.mod_lt _ hd
  have TQ:Int.tdiv (t:Int) (d:Int)=(q:Int):=by rw[<-hq];rfl
  have TM:Int.tmod (t:Int) (d:Int)=(e:Int):=by rw[<-he];rfl
  have hd0:((d:Int)==0)=false:=by simp;omega
  have hd1:¬d=0:=by omega
  have WD:IntKind.u64.wrap (d:Int)=(d:Int):=by rw[IntKind.wrap_u64];omega
  have WQ:IntKind.u64.wrap (q:Int)=(q:Int):=by rw[IntKind.wrap_u64];omega
  have WQ2:IntKind.u32.wrap (q:Int)=(q:Int):=IntWalk.u32_in _ (by omega);have WE:IntKind.u64.wrap (e:Int)=(e:Int):=by rw[IntKind.wrap_u64];omega
  rw[hq,he]at HST;rw[hq]at HRW
  have FIN:leftBy W0.heap.size (KeepAt (backS (w.heap.size+1+1+1) (some ⟨g,0,none⟩) m)) (fun V=>Buf .u32 89 g sz (divRow d xs m) V/\Boxed V w.heap.size 28 (.slice (some ⟨g,0,none⟩) xs.length c)/\Boxed V (w.heap.size+1) 89 (.int .u32 (d:Nat)) /\
    Boxed V (w.heap.size+1+1) 111 (.int .u64 ((divs d (xs.drop m)).2:Nat))/\Boxed V (w.heap.size+1+1+1) 28 (.slice (some ⟨g,0,none⟩) xs.length c)/\w.grownBy V (some g)) (fun _ _=>False) W .normal { tmps:=#[],defers:=[] } ((W.drew.setCell ⟨g,m,none⟩ (.int .u32 (q:Nat))).setCell ⟨w.heap.size+1+1,0,none⟩ (.int .u64 (e:Nat))):=by
   have g1:W.grownBy (W.drew.setCell ⟨g,m,none⟩ (.int .u32 (q:Nat))) (some g):=Grown.trans (Grown.drew (World.grownBy.refl W _)) (grownBy_at _ _ _ _);have g2:=grownBy_at (W.drew.setCell ⟨g,m,none⟩ (.int .u32 (q:Nat))) (w.heap.size+1+1) 0 (.int .u64 (e:Nat));have n1:some w.heap.size≠some g:=by simp;omega
   have n2:some (w.heap.size+1)≠some g:=by simp;omega
   have n3:some (w.heap.size+1+1)≠some g:=by simp;omega
   have n4:some (w.heap.size+1+1+1)≠some g:=by simp;omega
   have dB:=(cB.kept g1 n4).kept g2 (by simp);refine ⟨(((KeepsOthers.drew W).trans (KeepsOthers.setCell _ _ _)).trans (KeepsOthers.setCell _ _ _)).from _,?_,?_,(cX.kept g1 n1).kept g2 (by simp;omega),(cD.kept g1 n2).kept g2 (by simp),?_,dB,?_⟩
   .rintro p (rfl|⟨b,o,j,e1,hj,rfl⟩)
    .rw[dB.cell,cB.cell]
    .simp only[Option.some.injEq,Addr.mk.injEq]at e1;obtain ⟨rfl,rfl,_⟩:=e1;have hbf2:Buf .u32 89 g sz ((divRow d xs (m+1)).set m q) ((W.drew.setCell ⟨g,m,none⟩ (.int .u32 (q:Nat))).setCell ⟨w.heap.size+1+1,0,none⟩ (.int .u64 (e:Nat))):=((hbf.kept (w':=W.drew) (Grown.drew (World.grownBy.refl W none)) (by simp)).set m q).kept g2 (by simp;omega);have hj2:j<(divRow d xs (m+1)).length:=by omega
     rw[Nat.zero_add,hbf.cell hj2,hbf2.cell (by simpa using hj2)];simp[Nat.ne_of_gt hj]
   .rw[HRW.out];exact ((hbf.kept (w':=W.drew) (Grown.drew (World.grownBy.refl W none)) (by simp)).set m q).kept g2 (by simp;omega)
   .rw[HST.out];exact (cR.kept g1 n3).set _
   .exact Grown.later (Grown.trans hgr g1) g2 (by simp;omega)
  have FINH:=Hd FIN;clear FIN HST HRW HX HR HO hbf cX cD cR cB hgr bX bD bR bB hg0 hbuf0 dx hq he ht
  gi_wp2_with fail
  rw[HT.out];refine region_round follows (by kernel_rfl) ?_;refine wpAnyIn_take (i:=1) (v:=.int .i64 (m:Nat)) rfl rfl (by kernel_rfl) (by kernel_rfl) (by kernel_rfl) (fun _ _ _ h=>h) ⟨Or.inl ⟨by rfl,fun _=>by go_simp⟩,fun _=>rfl⟩ ?_;refine wpAnyIn_take (i:=2) (v:=.int .u64 (t:Nat)) rfl rfl (by kernel_rfl) (by kernel_rfl) (by kernel_rfl) (fun _ _ _ h=>h) ⟨Or.inl ⟨by rfl,fun _=>by go_simp⟩,fun _=>rfl⟩ ?_;refine wpAnyIn_ready (rs:=[0,3]) (by kernel_rfl) (by simp) (AllReadyIn.cons rfl (fun K hK=>?_) (AllReadyIn.cons rfl (fun K hK=>?_) AllReadyIn.nil))
  .go_simp;refine hK _ _ ?_;clear hK K
   refine rdyI (i:=3) (by kernel_rfl) rfl (fun K hK=>?_)
   go_simp;refine hK _ _ ?_;clear hK K
   refine wpAnyIn_take (i:=4) (v:=.int .u64 (d:Nat)) rfl rfl (by kernel_rfl) (by kernel_rfl) (by kernel_rfl) (fun _ _ _ h=>h) ⟨Or.inl ⟨by rfl,fun _=>by go_simp⟩,fun _=>rfl⟩ ?_;refine wpAnyIn_take (i:=5) (v:=.int .u64 (q:Nat)) rfl rfl (by kernel_rfl) (by kernel_rfl) (by kernel_rfl) (fun _ _ _ h=>h) ⟨Or.inl ⟨by rfl,fun _=>by go_simp⟩,fun _=>rfl⟩ ?_;refine wpAnyIn_take (i:=6) (v:=.int .u32 (q:Nat)) rfl rfl (by kernel_rfl) (by kernel_rfl) (by kernel_rfl) (fun _ _ _ h=>h) ⟨Or.inl ⟨by rfl,fun _=>by go_simp⟩,fun _=>rfl⟩ ?_;refine rdyI (i:=7) (by kernel_rfl) rfl (fun K hK=>?_)
   go_simp;refine hK _ _ ?_;clear hK K
   refine rdyI (i:=8) (by kernel_rfl) rfl (fun K hK=>?_)
   go_simp;refine hK _ _ ?_;clear hK K
   refine wpAnyIn_done (by kernel_rfl) ?_ _
   gi_wp2_with fail
   exact FINH.out
  .go_simp;refine hK _ _ ?_;clear hK K
   refine wpAnyIn_take (i:=4) (v:=.int .u64 (d:Nat)) rfl rfl (by kernel_rfl) (by kernel_rfl) (by kernel_rfl) (fun _ _ _ h=>h) ⟨Or.inl ⟨by rfl,fun _=>by go_simp⟩,fun _=>rfl⟩ ?_;refine wpAnyIn_take (i:=5) (v:=.int .u64 (q:Nat)) rfl rfl (by kernel_rfl) (by kernel_rfl) (by kernel_rfl) (fun _ _ _ h=>h) ⟨Or.inl ⟨by rfl,fun _=>by go_simp⟩,fun _=>rfl⟩ ?_;refine wpAnyIn_take (i:=6) (v:=.int .u32 (q:Nat)) rfl rfl (by kernel_rfl) (by kernel_rfl) (by kernel_rfl) (fun _ _ _ h=>h) ⟨Or.inl ⟨by rfl,fun _=>by go_simp⟩,fun _=>rfl⟩ ?_;refine rdyI (i:=0) (by kernel_rfl) rfl (fun K hK=>?_)
   go_simp;refine hK _ _ ?_;clear hK K
   refine rdyI (i:=7) (by kernel_rfl) rfl (fun K hK=>?_)
   go_simp;refine hK _ _ ?_;clear hK K
   refine rdyI (i:=8) (by kernel_rfl) rfl (fun K hK=>?_)
   go_simp;refine hK _ _ ?_;clear hK K
   refine wpAnyIn_done (by kernel_rfl) ?_ _
   gi_wp2_with fail
   exact FINH.out
 case done =>
  rintro W ⟨hbf,cX,cD,cR,cB,hgr⟩ hK;rw[Nat.sub_self]at hbf cR;rw[divRow_zero]at hbf;rw[List.drop_zero]at cR;have hr:=divs_lt hd xs;obtain ⟨r,HR⟩:∃r,Hid ((divs d xs).2=r):=⟨_,rfl⟩
  rw[HR.out]at hr cR;have WR:IntKind.u32.wrap (r:Int)=(r:Int):=IntWalk.u32_in _ (by omega);have eR:=cR.cell;have HEND:Hid (Buf .u32 89 g sz (divs d xs).1 W/\w.grownBy W (some g)/\W.heap[W0.heap.size]?=some (.deferred (some []))):=⟨hbf,hgr,hK⟩
  clear hbf cX cD cR cB hgr bX bD bR bB hg0 hbuf0 dx hK
  gi_wp2
  obtain ⟨e1,e2,e3⟩:=HEND.out;refine ⟨by simp,.inl ⟨_,_,rfl,run_takeDeferred e3,?_⟩⟩;exact ⟨_,results_tmp rfl _ _ _,by rw[HR.out];rfl,e1.kept (grownBy_putObj' _ _ _) (by simp;omega),Grown.later e2 (grownBy_putObj' _ _ _) (by simp;omega)⟩
 case stop=>exact fun _ _ _ _ h _=>h.elim
end Go.Proofs.YtglhdielkkhefaaGreat

namespace Go.Proofs.YtglhdielkkhefaaGreat
open Go.RowKit Go.Shelf
theorem guessWord_any {A A':Option Addr}{c c' m:Nat}{ps ds:List Nat}{w:World}(hx:Rd .u32 w w.heap.size A ps)(hy:Rd .u32 w w.heap.size A' ds)(dx:Dg b32 ps)(dy:Dg b32 ds)(lx:ps.length=m+3)(ly:ds.length=m+2)(hm:m<4294967296)(hh:0<ds.getD (m+1) 0) :
  Calls Tryz.prog 185 #[.slice A ps.length c,.slice A' ds.length c'] w fun e w'=>∃g:Nat,e=.returned (.int .u32 (g:Nat))/\g<b32/\g*(ds.getD (m+1) 0*b32+ds.getD m 0)<=(ps.getD (m+2) 0*b32+ps.getD (m+1) 0)*b32+ps.getD m 0 /\
   (∀q,q<b32->q*(ds.getD (m+1) 0*b32+ds.getD m 0)<=(ps.getD (m+2) 0*b32+ps.getD (m+1) 0)*b32+ps.getD m 0->q<=g)/\Below w.heap.size w w':=by
 obtain ⟨b1,o1,rfl,_,hc1⟩:=hx.at_ (k:=0) (by omega);obtain ⟨b2,o2,rfl,_,hc2⟩:=hy.at_ (k:=0) (by omega);have x2:=hc1 (m+2) (by omega);have x1:=hc1 (m+1) (by omega);have x0:=hc1 m (by omega);have y1:=hc2 (m+1) (by omega);have y0:=hc2 m (by omega);rw[<-getD_at (by omega)]at x2 x1 x0 y1 y0;have u2:=getD_dg (by decide) dx (m+2);have u1:=getD_dg (by decide) dx (m+1);have u0:=getD_dg (by decide) dx m;have v1:=getD_dg (by decide) dy (m+1);have v0:=getD_dg (by decide) dy m;rw[lx,ly];generalize ps.getD (m+2) 0=p2 at *;generalize ps.getD (m+1) 0=p1 at *;generalize ps.getD m 0=p0 at *;generalize ds.getD (m+1) 0=d1 at *;generalize ds.getD m 0=d0 at *;clear hc1 hc2 hx hy dx dy lx ly;have e2:((m+2:Nat):Int)-1=((m+1:Nat):Int):=by omega
 have e3:((m+2:Nat):Int)-2=((m:Nat):Int):=by omega
 obtain ⟨top,htop⟩:∃top,p2*4294967296+p1=top:=⟨_,rfl⟩
 have u2':p2<4294967296:=u2;have u1':p1<4294967296:=u1
 have T1:bits .or .u64 ((p2:Int)*4294967296) (p1:Int)=(top:Int):=by
  have h:=bits_or_u64_nat (p2*4294967296) p1 (by omega) (by omega);rw[or_shift p2 p1 u2' u1',htop]at h
  simpa using h
 have wd1:IntKind.u64.wrap (d1:Int)=(d1:Int):=by rw[IntKind.wrap_u64];unfold b32 at v1;omega
 have wd0:IntKind.u64.wrap (d0:Int)=(d0:Int):=by rw[IntKind.wrap_u64];unfold b32 at v0;omega
 have wp0:IntKind.u64.wrap (p0:Int)=(p0:Int):=by rw[IntKind.wrap_u64];unfold b32 at u0;omega
 have hd1:¬d1=0:=by omega
 have hd2:((d1:Int)==0)=false:=by simp;omega
 have U0:p0<4294967296:=u0;have V1:d1<4294967296:=v1;have V0:d0<4294967296:=v0;obtain ⟨Q,eQ⟩:∃Q,top / d1=Q:=⟨_,rfl⟩
 have htop64:top<18446744073709551616:=by omega
 have hQ64:Q<18446744073709551616:=by rw[<-eQ];exact Nat.lt_of_le_of_lt (Nat.div_le_self _ _) htop64
 have TQ:(top:Int) / (d1:Int)=(Q:Int):=by rw[<-eQ];rfl
 have TQ2:Int.tdiv (top:Int) (d1:Int)=(Q:Int):=by rw[<-eQ];rfl
 have wQ:IntKind.u64.wrap (Q:Int)=(Q:Int):=by rw[IntKind.wrap_u64];omega
 have hQd:Q*d1<=top:=by rw[<-eQ];exact Nat.div_mul_le_self top d1
 have hTop:Hid ((p2*b32+p1)*b32+p0=top*b32+p0):=by show _=_;rw[<-htop];rfl
 have FIRST:Hid (∀q,q<b32->q*(d1*b32+d0)<=top*b32+p0->q<=Q):=fun q _ h=>by rw[<-eQ];exact guess_first h u0 (by decide) hh
 rw[hTop.out];clear u1 u2 htop eQ hTop u0 v1 v0
 rcases Nat.lt_or_ge 4294967295 Q with hq|hq
 rotate_left
 .have hqi:¬((4294967295:Int)<(Q:Int)):=by omega
  have hr0:Q*d1<=top:=by exact hQd
  obtain ⟨P0,eP0⟩:∃P,Q*d1=P:=⟨_,rfl⟩
  have cP0:(Q:Int)*(d1:Int)=(P0:Int):=by rw[<-eP0];simp
  rw[eP0]at hr0;obtain ⟨R0,eR0⟩:∃R0,top=R0+P0:=⟨top-P0,by omega⟩
  have wP0:IntKind.u64.wrap (P0:Int)=(P0:Int):=by rw[IntKind.wrap_u64];omega
  have wR0:IntKind.u64.wrap ((top:Int)-(P0:Int))=(R0:Int):=by rw[IntKind.wrap_u64];omega
  have INIT:=Hd (show R0+Q*d1=top by rw[eP0];exact eR0.symm);have hR64:R0<18446744073709551616:=by omega
  have hQ:Q<4294967296:=by omega
  have FIRST2:=FIRST;clear hQd eP0 eR0
  go_enter Tryz.func185,Tryz.ntmps185
  go_wp2_with fail
  go_quiet (fail)
  go_wp2_with fail
  go_quiet (fail)
  go_wp2_with fail
  clear TQ TQ2 wQ T1 x2 x1 y1 cP0 wP0 wR0 wd1 wd0 e2
  go_loopw [9,10] (fun u s wr=>∃(g r k:Nat),u=.int .u64 (g:Nat)/\s=.int .u64 (r:Nat)/\Hid (r+g*d1=top)/\g<4294967296/\r<18446744073709551616/\Hid (∀q,q<b32->q*(d1*b32+d0)<=top*b32+p0->q<=g)/\wr=w.drewN k) (fun u _ _=>(intOf u).toNat)
  case atStart=>exact ⟨Q,R0,_,rfl,rfl,INIT,hQ,hR64,FIRST2,rfl⟩
  case round =>
   obtain ⟨g,r,k,rfl,rfl,hr,hg,hr64,hall,rfl⟩:=hrel;have wp0:IntKind.u64.wrap (p0:Int)=(p0:Int):=by rw[IntKind.wrap_u64];omega
   have wd0:IntKind.u64.wrap (d0:Int)=(d0:Int):=by rw[IntKind.wrap_u64];omega
   have wg:IntKind.u32.wrap (g:Int)=(g:Int):=IntWalk.u32_in _ (by omega);have hb:Below w.heap.size w (w.drewN k):=bel_drewN (Below.refl _ _) k
   rcases Nat.lt_or_ge r 4294967296 with hr32|hr32
   .have hrl:(r:Int)<4294967296:=by omega
    obtain ⟨P,eP⟩:∃P,g*d0=P:=⟨_,rfl⟩
    have hP:P<18446744073709551616:=by
     have h1:g*d0<=4294967295*4294967295:=Nat.mul_le_mul (by omega) (by omega);omega
    have cP:(g:Int)*(d0:Int)=(P:Int):=by rw[<-eP];simp
    have wP:IntKind.u64.wrap (P:Int)=(P:Int):=by rw[IntKind.wrap_u64];omega
    have TB:bits .or .u64 ((r:Int)*4294967296) (p0:Int)=((r*4294967296+p0:Nat):Int):=by
     have h:=bits_or_u64_nat (r*4294967296) p0 (by omega) (by omega);rw[or_shift r p0 hr32 U0]at h
     simpa using h
    obtain ⟨T,eT⟩:∃T,r*4294967296+p0=T:=⟨_,rfl⟩
    rw[eT]at TB
    rcases Nat.lt_or_ge T P with hTP|hTP
    .have hgt:(T:Int)<(P:Int):=by omega
     have hg1:1<=g:=by
      rcases Nat.eq_zero_or_pos g with h|h
      .subst h;rw[Nat.zero_mul]at eP;omega
      .exact h
     obtain ⟨j,ej⟩:∃j,g=j+1:=⟨g-1,by omega⟩
     obtain ⟨r2,er2⟩:∃r2,r+d1=r2:=⟨_,rfl⟩
     have wg1:IntKind.u64.wrap ((g:Int)-1)=(j:Int):=by rw[IntKind.wrap_u64];omega
     have wr1:IntKind.u64.wrap ((r:Int)+(d1:Int))=(r2:Int):=by rw[IntKind.wrap_u64];omega
     have HR2:Hid (r2+j*d1=top):=by
      have h:=hr.out;rw[ej,Nat.add_mul,Nat.one_mul]at h
      show _=_
      omega
     have HALL2:Hid (∀q,q<b32->q*(d1*b32+d0)<=top*b32+p0->q<=j):=fun q hq h=>by
      have:=guess_less hr.out (show r*b32+p0<g*d0 by rw[eP];unfold b32;omega) h;omega
     have hj:j<4294967296:=by omega
     have hr2:r2<18446744073709551616:=by omega
     have HJ:=Hd ej;clear hr hall FIRST FIRST2 INIT eP eT er2 ej;go_wp2
     go_roundw
     case rel=>exact ⟨j,r2,_,rfl,rfl,HR2,hj,hr2,HALL2,by first|rfl|rw[World.drewN_drewN]⟩
     case measure=>have:=HJ.out;simp[intOf];omega
    .have hgt:¬((T:Int)<(P:Int)):=by omega
     have DONE:Hid (g*(d1*b32+d0)<=top*b32+p0):=guess_done hr.out (.inr (by rw[eP];unfold b32;omega)) (by unfold b32;omega) (by unfold b32;omega);clear hr FIRST FIRST2 INIT eP eT;go_wp2
     go_ret
     exact ⟨g,rfl,by unfold b32;omega,DONE.out,hall.out,bel_drewN (Below.refl _ _) _⟩
   .have hrl:¬((r:Int)<4294967296):=by omega
    have DONE:Hid (g*(d1*b32+d0)<=top*b32+p0):=guess_done hr.out (.inl (by unfold b32;omega)) (by unfold b32;omega) (by unfold b32;omega);clear hr FIRST FIRST2 INIT;go_wp2
    go_ret
    exact ⟨g,rfl,by unfold b32;omega,DONE.out,hall.out,bel_drewN (Below.refl _ _) _⟩
 .have hqi:(4294967295:Int)<(Q:Int):=by omega
  have hr0:4294967295*d1<=top:=by exact Nat.le_trans (Nat.mul_le_mul_right _ (Nat.le_of_lt hq)) hQd
  obtain ⟨P0,eP0⟩:∃P,4294967295*d1=P:=⟨_,rfl⟩
  have cP0:4294967295*(d1:Int)=(P0:Int):=by omega
  rw[eP0]at hr0;obtain ⟨R0,eR0⟩:∃R0,top=R0+P0:=⟨top-P0,by omega⟩
  have wP0:IntKind.u64.wrap (P0:Int)=(P0:Int):=by rw[IntKind.wrap_u64];omega
  have wR0:IntKind.u64.wrap ((top:Int)-(P0:Int))=(R0:Int):=by rw[IntKind.wrap_u64];omega
  have INIT:=Hd (show R0+4294967295*d1=top by rw[eP0];exact eR0.symm);have hR64:R0<18446744073709551616:=by omega
  have h4294967295:4294967295<4294967296:=by omega
  have FIRST2:Hid (∀q,q<b32->q*(d1*b32+d0)<=top*b32+p0->q<=4294967295):=fun q h _=>by unfold b32 at h;omega
  clear hQd eP0 eR0
  go_enter Tryz.func185,Tryz.ntmps185
  go_wp2_with fail
  go_quiet (fail)
  go_wp2_with fail
  go_quiet (fail)
  go_wp2_with fail
  clear TQ TQ2 wQ T1 x2 x1 y1 cP0 wP0 wR0 wd1 wd0 e2
  go_loopw [9,10] (fun u s wr=>∃(g r k:Nat),u=.int .u64 (g:Nat)/\s=.int .u64 (r:Nat)/\Hid (r+g*d1=top)/\g<4294967296/\r<18446744073709551616/\Hid (∀q,q<b32->q*(d1*b32+d0)<=top*b32+p0->q<=g)/\wr=w.drewN k) (fun u _ _=>(intOf u).toNat)
  case atStart=>exact ⟨4294967295,R0,_,rfl,rfl,INIT,h4294967295,hR64,FIRST2,rfl⟩
  case round =>
   obtain ⟨g,r,k,rfl,rfl,hr,hg,hr64,hall,rfl⟩:=hrel;have wp0:IntKind.u64.wrap (p0:Int)=(p0:Int):=by rw[IntKind.wrap_u64];omega
   have wd0:IntKind.u64.wrap (d0:Int)=(d0:Int):=by rw[IntKind.wrap_u64];omega
   have wg:IntKind.u32.wrap (g:Int)=(g:Int):=IntWalk.u32_in _ (by omega);have hb:Below w.heap.size w (w.drewN k):=bel_drewN (Below.refl _ _) k
   rcases Nat.lt_or_ge r 4294967296 with hr32|hr32
   .have hrl:(r:Int)<4294967296:=by omega
    obtain ⟨P,eP⟩:∃P,g*d0=P:=⟨_,rfl⟩
    have hP:P<18446744073709551616:=by
     have h1:g*d0<=4294967295*4294967295:=Nat.mul_le_mul (by omega) (by omega);omega
    have cP:(g:Int)*(d0:Int)=(P:Int):=by rw[<-eP];simp
    have wP:IntKind.u64.wrap (P:Int)=(P:Int):=by rw[IntKind.wrap_u64];omega
    have TB:bits .or .u64 ((r:Int)*4294967296) (p0:Int)=((r*4294967296+p0:Nat):Int):=by
     have h:=bits_or_u64_nat (r*4294967296) p0 (by omega) (by omega);rw[or_shift r p0 hr32 U0]at h
     simpa using h
    obtain ⟨T,eT⟩:∃T,r*4294967296+p0=T:=⟨_,rfl⟩
    rw[eT]at TB
    rcases Nat.lt_or_ge T P with hTP|hTP
    .have hgt:(T:Int)<(P:Int):=by omega
     have hg1:1<=g:=by
      rcases Nat.eq_zero_or_pos g with h|h
      .subst h;rw[Nat.zero_mul]at eP;omega
      .exact h
     obtain ⟨j,ej⟩:∃j,g=j+1:=⟨g-1,by omega⟩
     obtain ⟨r2,er2⟩:∃r2,r+d1=r2:=⟨_,rfl⟩
     have wg1:IntKind.u64.wrap ((g:Int)-1)=(j:Int):=by rw[IntKind.wrap_u64];omega
     have wr1:IntKind.u64.wrap ((r:Int)+(d1:Int))=(r2:Int):=by rw[IntKind.wrap_u64];omega
     have HR2:Hid (r2+j*d1=top):=by
      have h:=hr.out;rw[ej,Nat.add_mul,Nat.one_mul]at h
      show _=_
      omega
     have HALL2:Hid (∀q,q<b32->q*(d1*b32+d0)<=top*b32+p0->q<=j):=fun q hq h=>by
      have:=guess_less hr.out (show r*b32+p0<g*d0 by rw[eP];unfold b32;omega) h;omega
     have hj:j<4294967296:=by omega
     have hr2:r2<18446744073709551616:=by omega
     have HJ:=Hd ej;clear hr hall FIRST FIRST2 INIT eP eT er2 ej;go_wp2
     go_roundw
     case rel=>exact ⟨j,r2,_,rfl,rfl,HR2,hj,hr2,HALL2,by first|rfl|rw[World.drewN_drewN]⟩
     case measure=>have:=HJ.out;simp[intOf];omega
    .have hgt:¬((T:Int)<(P:Int)):=by omega
     have DONE:Hid (g*(d1*b32+d0)<=top*b32+p0):=guess_done hr.out (.inr (by rw[eP];unfold b32;omega)) (by unfold b32;omega) (by unfold b32;omega);clear hr FIRST FIRST2 INIT eP eT;go_wp2
     go_ret
     exact ⟨g,rfl,by unfold b32;omega,DONE.out,hall.out,bel_drewN (Below.refl _ _) _⟩
   .have hrl:¬((r:Int)<4294967296):=by omega
    have DONE:Hid (g*(d1*b32+d0)<=top*b32+p0):=guess_done hr.out (.inl (by unfold b32;omega)) (by unfold b32;omega) (by unfold b32;omega);clear hr FIRST FIRST2 INIT;go_wp2
    go_ret
    exact ⟨g,rfl,by unfold b32;omega,DONE.out,hall.out,bel_drewN (Below.refl _ _) _⟩
end Go.Proofs.YtglhdielkkhefaaGreat
