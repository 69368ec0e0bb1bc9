/- Parts: 5. -/
import Derived.Test.YtglhdielkkhefaaGreatMl1
import Derived.Test.YtglhdielkkhefaaGreatMl3
import Derived.Test.YtglhdielkkhefaaGreatMl4
import Derived.Test.YtglhdielkkhefaaGreatMl5
import Derived.Shelf.Small.Bits
set_option linter.unusedVariables false
set_option linter.unusedSimpArgs false
set_option maxRecDepth 100000
set_option maxHeartbeats 40000000

namespace Go.Proofs.YtglhdielkkhefaaGreat
open Go.RowKit Go.Shelf
theorem bits_or_u32_nat (a b:Nat)(ha:a<4294967296)(hb:b<4294967296):bits .or .u32 (a:Int) (b:Int)=((a ||| b:Nat):Int):=by
 have hx:a ||| b<2 ^ 32:=Nat.or_lt_two_pow (by omega) (by omega)
 have h1:(BitVec.ofInt 32 (a:Int)).toNat=a:=by
  rw[BitVec.ofInt_natCast,BitVec.toNat_ofNat];exact Nat.mod_eq_of_lt (by omega)
 have h2:(BitVec.ofInt 32 (b:Int)).toNat=b:=by
  rw[BitVec.ofInt_natCast,BitVec.toNat_ofNat];exact Nat.mod_eq_of_lt (by omega)
 show IntKind.u32.wrap ((BitVec.ofInt 32 (a:Int) ||| BitVec.ofInt 32 (b:Int)).toNat:Int)=_
 rw[BitVec.toNat_or,h1,h2,IntWalk.u32_in _ (by omega)]
theorem shiftLeft_any {A:Option Addr}{c s:Nat}{xs:List Nat}{w:World}(hx:Arg w A c xs)(hs:s<32) :
  Calls Tryz.prog 184 #[.slice A xs.length c,.int .i64 (s:Nat)] w fun e w'=>∃zs,e=.returned (.slice (some ⟨w.heap.size,0,none⟩) zs.length zs.length)/\Buf .u32 89 w.heap.size zs.length zs w'/\zs.length=xs.length+1/\Dg b32 zs/\val b32 zs=val b32 xs*2 ^ s/\Below w.heap.size w w':=by
 obtain ⟨i0,hi',hz0,hz1,hz2⟩:=info_parts infoWord;have HX:=Hd hx;have hxl:=hx.small;clear hx;obtain ⟨N,hN⟩:∃N,xs.length+1=N:=⟨_,rfl⟩
 have HN:=Hd hN
 go_enter Tryz.func184,Tryz.ntmps184
 go_wp2_with (at_make;refine wpList_make_full _ rfl _ _ 28 rfl w.heap.size 89 i0 (.int .u32 0) 1 Tryz.underlying28 hi' hz0 hz1 .i64 .i64 _ _ N rfl rfl (by omega) (by omega) (by rw[hz2];omega) (by unfold maxLen;omega) (Nat.le_refl _) ?_;intro w4 hown4 hgrow4)
 have hb4:Below w.heap.size w w4:=(Below.refl _ _).grown hgrow4 (Nat.le_refl _) (fun k e=>by cases e)
 have hbuf4:Buf .u32 89 w.heap.size N (List.replicate N 0) w4:=by
  refine Buf.from_own (base:=w.heap.size) (xs:=List.replicate N 0) (List.length_replicate ..) ?_;have h:=hown4;rw[Nat.mul_one,show (Value.int .u32 0).cells=#[.int .u32 0] from rfl,toList_madeCells_one]at h
  simpa [ints]using h
 clear hown4 hgrow4
 go_loopw [15] (fun iv wr=>∃(i:Nat) (Q:List Nat),iv=.int .i64 i/\i<=xs.length/\Q.length=N/\Dg b32 Q/\Hid (Zf Q (i+1))/\Q.getD i 0<2 ^ s/\Hid (val b32 Q=val b32 (xs.take i)*2 ^ s)/\Buf .u32 89 w.heap.size N Q wr/\Below w.heap.size w wr)
  (fun iv _=>xs.length-(intOf iv).toNat)
 case atStart =>
  have hz:∀j,(List.replicate N 0).getD j 0=0:=by
   intro j;simp[List.getD,List.getElem?_replicate]
   split<;>rfl
  refine ⟨0,List.replicate N 0,rfl,Nat.zero_le _,by simp,?_,fun j _=>hz j,by rw[hz];exact Nat.pow_pos (by decide),?_,hbuf4,hb4⟩
  .intro d hd;rw[List.eq_of_mem_replicate hd];decide
  .show _=_
   rw[val_zeros];simp[val]
 case round =>
  obtain ⟨i,Q,rfl,hi,hQl,hQd,HZ,hlow,HV,hbf,hb⟩:=hrel
  by_cases hlt:i<xs.length
  .obtain ⟨bx,ox,rfl,_,hcx⟩:=(HX.out.to hb).rd.at_ hlt;have ex:=hcx i hlt;rw[<-getD_at hlt]at ex;have hf:=getD_dg (by decide) HX.out.dg i;have HTK:=Hd (val_take_succ (b:=b32) xs i);obtain ⟨x,ef⟩:∃f,Hid (xs.getD i 0=f):=⟨_,rfl⟩
   rw[ef.out]at ex hf HTK;have hi1:i+1<Q.length:=by omega
   have hi0:i<Q.length:=by omega
   have ev:=hbf.cell hi0;rw[<-getD_at hi0]at ev;have fv:=hbf.frozen i;obtain ⟨v,hvv⟩:∃v,Hid (Q.getD i 0=v):=⟨_,rfl⟩
   rw[hvv.out]at ev hlow;have hz1:Q.getD (i+1) 0=0:=HZ.out _ (Nat.le_refl _);have HR:=Hd (shl_round (x:=x) hs hi1 hvv.out hz1 HV.out);have hx32:x<4294967296:=hf;have hW64:=shl_word (s:=s) hx32 hs;have hlow2:=shl_low (x:=x) hs;have hhigh:=shl_high hs hx32;obtain ⟨X,eX⟩:∃X,x*2 ^ s=X:=⟨_,rfl⟩
   rw[eX]at HR hW64 hlow2 hhigh;have cX:(x:Int)*2 ^ s=(X:Int):=by rw[<-eX];push_cast;rfl
   have wX:IntKind.u64.wrap (X:Int)=(X:Int):=by rw[IntKind.wrap_u64];omega
   obtain ⟨L,eL⟩:∃L,X % 4294967296=L:=⟨_,rfl⟩
   obtain ⟨H,eH⟩:∃H,X / 4294967296=H:=⟨_,rfl⟩
   rw[eL]at HR hlow2;rw[eH]at HR hhigh;have h2s:2 ^ s<=2147483648:=Nat.pow_le_pow_right (n:=2) (by decide) (show s<=31 by omega);have hL:L<4294967296:=by rw[<-eL];exact Nat.mod_lt _ (by decide)
   have hH:H<4294967296:=by omega
   have hor:v ||| L=v+L:=by rw[hlow2];exact or_low hlow
   have hvL:v+L<4294967296:=by
    rw[<-hor];exact Nat.or_lt_two_pow (n:=32) (by omega) (by omega)
   have T1:bits .or .u32 (v:Int) (L:Int)=((v+L:Nat):Int):=by
    have h:=bits_or_u32_nat v L (by omega) (by omega);rw[hor]at h;exact h
   obtain ⟨S,eS⟩:∃S,v+L=S:=⟨_,rfl⟩
   rw[eS]at HR T1 hvL;have cL:(X:Int) % 4294967296=(L:Int):=by omega
   have cH:(X:Int) / 4294967296=(H:Int):=by omega
   have cH2:(H:Int) % 4294967296=(H:Int):=by omega
   have d1:=hbf.set i S;have d1l:i+1<(Q.set i S).length:=by rw[List.length_set];exact hi1
   have ev2:=d1.cell d1l;have fv2:=d1.frozen (i+1);obtain ⟨o,HO⟩:∃o,(Q.set i S)[i+1]=o:=⟨_,rfl⟩
   rw[HO]at ev2;have hs0:=hb.size
   have FIN:Buf .u32 89 w.heap.size N ((Q.set i S).set (i+1) H) ((wr.setCell ⟨w.heap.size,i,none⟩ (.int .u32 (S:Nat))).setCell ⟨w.heap.size,i+1,none⟩ (.int .u32 (H:Nat))) /\
     Below w.heap.size w ((wr.setCell ⟨w.heap.size,i,none⟩ (.int .u32 (S:Nat))).setCell ⟨w.heap.size,i+1,none⟩ (.int .u32 (H:Nat))) :=
    ⟨d1.set _ _,(hb.setCell (p:=⟨w.heap.size,i,none⟩) (Nat.le_refl _) _).setCell (p:=⟨w.heap.size,i+1,none⟩) (Nat.le_refl _) _⟩
   have FINH:=Hd FIN;have HZ2:Hid (Zf ((Q.set i S).set (i+1) H) (i+1+1)):=fun j hj=>by rw[getD_set_other _ H (by omega),getD_set_other Q S (by omega)];exact HZ.out j (by omega)
   have HLOW:Hid (((Q.set i S).set (i+1) H).getD (i+1) 0<2 ^ s):=by
    show _<_
    rw[getD_at (by rw[List.length_set];exact d1l),List.getElem_set_self];exact hhigh
   have HVN:Hid (val b32 ((Q.set i S).set (i+1) H)=val b32 (xs.take (i+1))*2 ^ s):=by
    show _=_
    rw[HR.out,HTK.out]
   have hiN:(i:Int)+1<(N:Int):=by omega
   have hiN0:(i:Int)<(N:Int):=by omega
   have hQd2:Hid (Dg b32 ((Q.set i S).set (i+1) H)):=(hQd.set _ hvL).set _ hH;clear hcx hz1 HV FIN d1 d1l HO hbf hb eX eL eH hlow2 hhigh hor eS hs0 hlow;go_wp2
   go_roundw
   case rel=>exact ⟨i+1,(Q.set i S).set (i+1) H,by simp,by omega,by rw[List.length_set,List.length_set];exact hQl,hQd2.out,HZ2,HLOW.out,HVN,FINH.out.1,FINH.out.2⟩
   case measure=>simp[intOf];omega
  .obtain rfl:i=xs.length:=by omega
   rw[List.take_of_length_le (Nat.le_refl _)]at HV;have HB:=Hd hb;have hN2:=HN.out;have hbf2:=hbf;rw[<-hQl]at hbf2 ⊢;have HBF:=Hd hbf2;clear hbf hb hbf2;go_wp2
   go_ret
   exact ⟨Q,rfl,HBF.out,by omega,hQd,HV.out,HB.out⟩
attribute [local go_sem] Oper.semAt_some
def shrFrom (s:Nat)(xs:List Nat)(m:Nat):List Nat:=xs.take m++shrRow s (xs.drop m)
theorem shrFrom_full (s:Nat)(xs:List Nat):shrFrom s xs xs.length=xs:=by simp[shrFrom,shrRow]
theorem shrFrom_zero (s:Nat)(xs:List Nat):shrFrom s xs 0=shrRow s xs:=by simp[shrFrom]
theorem shrFrom_length (s:Nat)(xs:List Nat)(m:Nat)(h:m<=xs.length):(shrFrom s xs m).length=xs.length:=by
 simp[shrFrom,shrRow_length];omega
theorem shrFrom_step (s:Nat)(xs:List Nat)(m:Nat)(h:m<xs.length):shrFrom s xs m=(shrFrom s xs (m+1)).set m (((xs.getD (m+1) 0*4294967296+xs.getD m 0) / 2 ^ s) % 4294967296):=by
 unfold shrFrom;rw[List.drop_eq_getElem_cons h,shrRow,take_snoc xs m h,List.append_assoc,List.set_append_right _ _ (List.length_take_le _ _)];have hl:(xs.take m).length=m:=by simp;omega
 have hg:(xs.drop (m+1)).getD 0 0=xs.getD (m+1) 0:=by simp[List.getD]
 rw[hl,Nat.sub_self,hg,getD_at h];rfl
theorem shiftRight_any (g sz c s:Nat)(xs:List Nat)(w:World)(hb:Buf .u32 89 g sz xs w)(dx:Dg b32 xs)(hs:s<32)(hxc:xs.length<=c)(hc:c<=9223372036854775807) :
  CallsIn Fence.wide 3 Tryz.prog 188 #[.slice (some ⟨g,0,none⟩) xs.length c,.int .i64 (s:Nat)] w fun e w'=>(∃v,e=.returned v)/\Buf .u32 89 g sz (shrRow s xs) w'/\w.grownBy w' (some g):=by
 have hg:=hb.lt;refine callsIn_of_wp_marks Tryz.func188 rfl trivial ?_ rfl;simp only[Tryz.ntmps188,List.size_toArray,List.length_cons,List.length_nil,Nat.reduceAdd,Nat.reduceSub,Array.replicate_succ,Array.replicate_zero,List.push_toArray,List.append_toArray,List.nil_append,List.cons_append]
 gi_wp2_with (refine ⟨trivial,?_⟩;gi_at_call 169;refine (callsIn_wide.2 (backward_any _ _ _ _)).mono ?_;rintro e w' ⟨rfl,rfl⟩)
 obtain ⟨W0,hW0⟩:∃W0,W0=(((w.alloc (.cells #[.slice (some ⟨g,0,none⟩) xs.length c] 28)).alloc (.cells #[.int .i64 (s:Nat)] 3)).alloc (.cells #[.int .u32 0] 89)).alloc (.cells #[.slice (some ⟨g,0,none⟩) xs.length c] 28):=⟨_,rfl⟩
 rw[<-hW0];have bX:Boxed W0 w.heap.size 28 (.slice (some ⟨g,0,none⟩) xs.length c):=by rw[hW0];exact (((Boxed.new w _ _).alloc _).alloc _).alloc _
 have bD:Boxed W0 (w.heap.size+1) 3 (.int .i64 (s:Nat)):=by
  have h:=Boxed.new (w.alloc (.cells #[.slice (some ⟨g,0,none⟩) xs.length c] 28)) 3 (.int .i64 (s:Nat));rw[szA]at h;rw[hW0];exact (h.alloc _).alloc _
 have bR:Boxed W0 (w.heap.size+1+1) 89 (.int .u32 0):=by
  have h:=Boxed.new ((w.alloc (.cells #[.slice (some ⟨g,0,none⟩) xs.length c] 28)).alloc (.cells #[.int .i64 (s:Nat)] 3)) 89 (.int .u32 0);rw[szA,szA]at h;rw[hW0];exact h.alloc _
 have bB:Boxed W0 (w.heap.size+1+1+1) 28 (.slice (some ⟨g,0,none⟩) xs.length c):=by
  have h:=Boxed.new (((w.alloc (.cells #[.slice (some ⟨g,0,none⟩) xs.length c] 28)).alloc (.cells #[.int .i64 (s:Nat)] 3)).alloc (.cells #[.int .u32 0] 89)) 28 (.slice (some ⟨g,0,none⟩) xs.length c);rw[szA,szA,szA]at h;rw[hW0];exact h
 have hg0:w.grownBy W0 (some g):=by
  rw[hW0];exact Grown.trans (Grown.trans (Grown.trans (World.grownBy_alloc _ _ _) (World.grownBy_alloc _ _ _)) (World.grownBy_alloc _ _ _)) (World.grownBy_alloc _ _ _)
 have hbuf0:Buf .u32 89 g sz xs W0:=by
  rw[hW0];exact (((hb.kept (World.grownBy_alloc _ _ none) (by simp)).kept (World.grownBy_alloc _ _ none) (by simp)).kept (World.grownBy_alloc _ _ none) (by simp)).kept (World.grownBy_alloc _ _ none) (by simp)
 have hs0:W0.heap.size=w.heap.size+4:=by rw[hW0];simp
 clear hW0
 refine wp_rounds (gf:=179) (lb:=#[.pointer (some ⟨w.heap.size+1+1+1,0,none⟩)]) ?hg (enters_of Tryz.func179 (by kernel_rfl) rfl)
  (N:=xs.length) (enc:=backE xs) (Keep:=fun k=>KeepAt (backS (w.heap.size+1+1+1) (some ⟨g,0,none⟩) (xs.length-1-k)))
  (fun W hW=>backward_gives (w.heap.size+1+1+1) w.heap.size c (some ⟨g,0,none⟩) xs hxc hc W ((hW.cell (p:=⟨w.heap.size+1+1+1,0,none⟩) (by show w.heap.size+1+1+1<_;omega)).trans bB.cell) ((hbuf0.rd hg).below (hW.mono (by omega))))
  (fun k A₁ B₁ o o' _ h=>keepAt_round (backS_lt (hbuf0.rd hg) (by omega) (by omega) (by omega)) o o' h)
  ?hps
  (fun k W=>Buf .u32 89 g sz (shrFrom s xs (xs.length-k)) W/\Boxed W w.heap.size 28 (.slice (some ⟨g,0,none⟩) xs.length c)/\Boxed W (w.heap.size+1) 3 (.int .i64 (s:Nat)) /\
   Boxed W (w.heap.size+1+1) 89 (.int .u32 ((xs.getD (xs.length-k) 0:Nat):Int))/\Boxed W (w.heap.size+1+1+1) 28 (.slice (some ⟨g,0,none⟩) xs.length c)/\w.grownBy W (some g))
  (fun _ _ _=>False)
  ?hI ?hIx ⟨by rw[Nat.sub_zero,shrFrom_full];exact hbuf0,bX,bD,by rw[Nat.sub_zero,getD_over (Nat.le_refl _)];exact bR,bB,hg0⟩
  (fun k=>{ tmps:=#[.slice (some ⟨g,0,none⟩) xs.length c,.int .i64 (s:Nat),.pointer (some ⟨w.heap.size,0,none⟩),.pointer (some ⟨w.heap.size+1,0,none⟩),.pointer (some ⟨w.heap.size+1+1,0,none⟩),.int .i64 ((xs.length-1-k:Nat):Int),.int .u32 ((xs.getD (xs.length-1-k) 0:Nat):Int),
   .slice (some ⟨g,0,none⟩) xs.length c,.func (.func 179) #[] #[.pointer (some ⟨w.heap.size+1+1+1,0,none⟩)],.int .i64 ((xs.length-1-k:Nat):Int),.int .u32 ((xs.getD (xs.length-1-k) 0:Nat):Int),
   undef,undef,undef,undef,undef,undef,undef,undef,undef,undef,undef,undef,undef],defers:=[] }) ?assign ?body ?done ?stop
 case hg=>rfl
 case hps=>exact fun _=>rfl
 case hI =>
  exact OwnFrom.and (Own.from (buf_own _ _ _ _ _) _) (OwnFrom.and (Own.from (boxed_own _ _ _) _) (OwnFrom.and (Own.from (boxed_own _ _ _) _) (OwnFrom.and (Own.from (boxed_own _ _ _) _) (OwnFrom.and (Own.from (boxed_own _ _ _) _) (ownFrom_grown (by omega))))))
 case hIx=>exact fun _ _ _ _ _ h _ _=>h
 case assign =>
  intro l k W K hK;unfold backE
  gi_wp2
  exact hK
 case body =>
  rintro l k W hlt ⟨hbf,cX,cD,cR,cB,hgr⟩ hk;obtain ⟨m,hm⟩:∃m,xs.length-1-k=m:=⟨_,rfl⟩
  have hm1:xs.length-k=m+1:=by omega
  have hm2:xs.length-(k+1)=m:=by omega
  simp only[hm,hm1,hm2]at hbf cR ⊢;have hmx:m<xs.length:=by omega
  have hx:xs.getD m 0<4294967296:=getD_dg (by decide) dx m;have ha:xs.getD (m+1) 0<4294967296:=getD_dg (by decide) dx (m+1);have HRW:=Hd (shrFrom_step s xs m hmx);have hml:m<(shrFrom s xs (m+1)).length:=by rw[shrFrom_length s xs _ (by omega)];exact hmx
  have cM:=hbf.cell hml;have fM:=hbf.frozen m;obtain ⟨x,HX⟩:∃x,Hid (xs.getD m 0=x):=⟨_,rfl⟩
  obtain ⟨a,HR⟩:∃a,Hid (xs.getD (m+1) 0=a):=⟨_,rfl⟩
  rw[HX.out]at hx HRW ⊢;rw[HR.out]at ha HRW cR;obtain ⟨o,HO⟩:∃o,(shrFrom s xs (m+1))[m]=o:=⟨_,rfl⟩
  rw[HO]at cM;have eX:=cX.cell;have eD:=cD.cell;have eR:=cR.cell;have fR:=cR.frozen;obtain ⟨t,ht⟩:∃t,a*4294967296+x=t:=⟨_,rfl⟩
  have HT:Hid (bits .or .u64 ((a:Int)*4294967296) (x:Int)=(t:Int)):=by
   show _=_
   have h:=bits_or_u64_nat (a*4294967296) x (by omega) (by omega);rw[or_shift a x (by omega) hx,ht]at h
   simpa using h
  have htl:t<18446744073709551616:=by omega
  rw[ht]at HRW;obtain ⟨q,hq⟩:∃q,t / 2 ^ s=q:=⟨_,rfl⟩
  obtain ⟨e,he⟩:∃e,q % 4294967296=e:=⟨_,rfl⟩
  have hql:q<18446744073709551616:=by rw[<-hq];exact Nat.lt_of_le_of_lt (Nat.div_le_self _ _) htl
  have hel:e<4294967296:=by rw[<-he];exact Nat.mod_lt _ (by decide)
  have WX:IntKind.u64.wrap (x:Int)=(x:Int):=by rw[IntKind.wrap_u64];omega
  have WA:IntKind.u64.wrap (a:Int)=(a:Int):=by rw[IntKind.wrap_u64];omega
  have WA4:IntKind.u64.wrap ((a:Int)*4294967296)=(a:Int)*4294967296:=by rw[IntKind.wrap_u64];omega
  have HT2:=HT.out;have TQ:(t:Int) / 2 ^ s=(q:Int):=by rw[<-hq];push_cast;rfl
  have TE:(q:Int) % 4294967296=(e:Int):=by omega
  have WQ:IntKind.u64.wrap (q:Int)=(q:Int):=by rw[IntKind.wrap_u64];omega
  have WE:IntKind.u32.wrap (q:Int)=(e:Int):=by simp[IntKind.wrap,IntKind.bits,IntKind.signed];omega
  rw[hq,he]at HRW
  have FIN:leftBy W0.heap.size (KeepAt (backS (w.heap.size+1+1+1) (some ⟨g,0,none⟩) m)) (fun V=>Buf .u32 89 g sz (shrFrom s xs m) V/\Boxed V w.heap.size 28 (.slice (some ⟨g,0,none⟩) xs.length c)/\Boxed V (w.heap.size+1) 3 (.int .i64 (s:Nat)) /\
    Boxed V (w.heap.size+1+1) 89 (.int .u32 (x:Nat))/\Boxed V (w.heap.size+1+1+1) 28 (.slice (some ⟨g,0,none⟩) xs.length c)/\w.grownBy V (some g)) (fun _ _=>False) W .normal { tmps:=#[],defers:=[] } ((W.drew.setCell ⟨g,m,none⟩ (.int .u32 (e:Nat))).setCell ⟨w.heap.size+1+1,0,none⟩ (.int .u32 (x:Nat))):=by
   have g1:W.grownBy (W.drew.setCell ⟨g,m,none⟩ (.int .u32 (e:Nat))) (some g):=Grown.trans (Grown.drew (World.grownBy.refl W _)) (grownBy_at _ _ _ _);have g2:=grownBy_at (W.drew.setCell ⟨g,m,none⟩ (.int .u32 (e:Nat))) (w.heap.size+1+1) 0 (.int .u32 (x:Nat));have n1:some w.heap.size≠some g:=by simp;omega
   have n2:some (w.heap.size+1)≠some g:=by simp;omega
   have n3:some (w.heap.size+1+1)≠some g:=by simp;omega
   have n4:some (w.heap.size+1+1+1)≠some g:=by simp;omega
   have dB:=(cB.kept g1 n4).kept g2 (by simp);refine ⟨(((KeepsOthers.drew W).trans (KeepsOthers.setCell _ _ _)).trans (KeepsOthers.setCell _ _ _)).from _,?_,?_,(cX.kept g1 n1).kept g2 (by simp;omega),(cD.kept g1 n2).kept g2 (by simp),?_,dB,?_⟩
   .rintro p (rfl|⟨b,o,j,e1,hj,rfl⟩)
    .rw[dB.cell,cB.cell]
    .simp only[Option.some.injEq,Addr.mk.injEq]at e1;obtain ⟨rfl,rfl,_⟩:=e1;have hbf2:Buf .u32 89 g sz ((shrFrom s xs (m+1)).set m e) ((W.drew.setCell ⟨g,m,none⟩ (.int .u32 (e:Nat))).setCell ⟨w.heap.size+1+1,0,none⟩ (.int .u32 (x:Nat))):=((hbf.kept (w':=W.drew) (Grown.drew (World.grownBy.refl W none)) (by simp)).set m e).kept g2 (by simp;omega);have hj2:j<(shrFrom s xs (m+1)).length:=by omega
     rw[Nat.zero_add,hbf.cell hj2,hbf2.cell (by simpa using hj2)];simp[Nat.ne_of_gt hj]
   .rw[HRW.out];exact ((hbf.kept (w':=W.drew) (Grown.drew (World.grownBy.refl W none)) (by simp)).set m e).kept g2 (by simp;omega)
   .exact (cR.kept g1 n3).set _
   .exact Grown.later (Grown.trans hgr g1) g2 (by simp;omega)
  have FINH:=Hd FIN;clear FIN HRW HR HO hbf cX cD cR cB hgr bX bD bR bB hg0 hbuf0 dx hq he ht
  gi_wp2_with fail
  refine region_round follows (by kernel_rfl) ?_;refine wpAnyIn_take (i:=1) (v:=(.int .i64 (m:Nat))) rfl rfl (by kernel_rfl) (by kernel_rfl) (by kernel_rfl) (fun _ _ _ h=>h) ⟨Or.inl ⟨by rfl,fun _=>by go_simp⟩,fun _=>rfl⟩ ?_;refine wpAnyIn_take (i:=5) (v:=(.int .u32 (x:Nat))) rfl rfl (by kernel_rfl) (by kernel_rfl) (by kernel_rfl) (fun _ _ _ h=>h) ⟨Or.inl ⟨by rfl,fun _=>by go_simp⟩,fun _=>rfl⟩ ?_;refine wpAnyIn_take (i:=6) (v:=(.int .u64 (x:Nat))) rfl rfl (by kernel_rfl) (by kernel_rfl) (by kernel_rfl) (fun _ _ _ h=>h) ⟨Or.inl ⟨by rfl,fun _=>by go_simp⟩,fun _=>rfl⟩ ?_;refine wpAnyIn_ready (rs:=[0,2,8]) (by kernel_rfl) (by simp) (AllReadyIn.cons rfl (fun K hK=>?_) (AllReadyIn.cons rfl (fun K hK=>?_) (AllReadyIn.cons rfl (fun K hK=>?_) (AllReadyIn.nil))))
  .go_simp;refine hK _ _ ?_;clear hK K
   refine wpAnyIn_ready (rs:=[2,8]) (by kernel_rfl) (by simp) (AllReadyIn.cons rfl (fun K hK=>?_) (AllReadyIn.cons rfl (fun K hK=>?_) (AllReadyIn.nil)))
   .go_simp;refine hK _ _ ?_;clear hK K
    refine wpAnyIn_take (i:=3) (v:=(.int .u64 (a:Nat))) rfl rfl (by kernel_rfl) (by kernel_rfl) (by kernel_rfl) (fun _ _ _ h=>h) ⟨Or.inl ⟨by rfl,fun _=>by go_simp⟩,fun _=>rfl⟩ ?_;refine wpAnyIn_take (i:=4) (v:=(.int .u64 ((a:Nat)*4294967296))) rfl rfl (by kernel_rfl) (by kernel_rfl) (by kernel_rfl) (fun _ _ _ h=>h) ⟨Or.inl ⟨by rfl,fun _=>by go_simp⟩,fun _=>rfl⟩ ?_;refine wpAnyIn_take (i:=7) (v:=(.int .u64 (t:Nat))) rfl rfl (by kernel_rfl) (by kernel_rfl) (by kernel_rfl) (fun _ _ _ h=>h) ⟨Or.inl ⟨by rfl,fun _=>by go_simp⟩,fun _=>rfl⟩ ?_;refine wpAnyIn_ready (rs:=[8]) (by kernel_rfl) (by simp) (AllReadyIn.cons rfl (fun K hK=>?_) (AllReadyIn.nil))
    .go_simp;refine hK _ _ ?_;clear hK K
     refine wpAnyIn_take (i:=9) (v:=(.int .u64 (q:Nat))) rfl rfl (by kernel_rfl) (by kernel_rfl) (by kernel_rfl) (fun _ _ _ h=>h) ⟨Or.inl ⟨by rfl,fun _=>by go_simp⟩,fun _=>rfl⟩ ?_;refine wpAnyIn_take (i:=10) (v:=(.int .u32 (e:Nat))) rfl rfl (by kernel_rfl) (by kernel_rfl) (by kernel_rfl) (fun _ _ _ h=>h) ⟨Or.inl ⟨by rfl,fun _=>by go_simp⟩,fun _=>rfl⟩ ?_;refine wpAnyIn_ready (rs:=[11]) (by kernel_rfl) (by simp) (AllReadyIn.cons rfl (fun K hK=>?_) (AllReadyIn.nil))
     go_simp;refine hK _ _ ?_;clear hK K
     refine wpAnyIn_ready (rs:=[12]) (by kernel_rfl) (by simp) (AllReadyIn.cons rfl (fun K hK=>?_) (AllReadyIn.nil))
     go_simp;refine hK _ _ ?_;clear hK K
     refine wpAnyIn_done (by kernel_rfl) ?_ _
     gi_wp2_with fail
     exact FINH.out
   .go_simp;refine hK _ _ ?_;clear hK K
    refine wpAnyIn_ready (rs:=[2]) (by kernel_rfl) (by simp) (AllReadyIn.cons rfl (fun K hK=>?_) (AllReadyIn.nil))
    .go_simp;refine hK _ _ ?_;clear hK K
     refine wpAnyIn_take (i:=3) (v:=(.int .u64 (a:Nat))) rfl rfl (by kernel_rfl) (by kernel_rfl) (by kernel_rfl) (fun _ _ _ h=>h) ⟨Or.inl ⟨by rfl,fun _=>by go_simp⟩,fun _=>rfl⟩ ?_;refine wpAnyIn_take (i:=4) (v:=(.int .u64 ((a:Nat)*4294967296))) rfl rfl (by kernel_rfl) (by kernel_rfl) (by kernel_rfl) (fun _ _ _ h=>h) ⟨Or.inl ⟨by rfl,fun _=>by go_simp⟩,fun _=>rfl⟩ ?_;refine wpAnyIn_take (i:=7) (v:=(.int .u64 (t:Nat))) rfl rfl (by kernel_rfl) (by kernel_rfl) (by kernel_rfl) (fun _ _ _ h=>h) ⟨Or.inl ⟨by rfl,fun _=>by go_simp⟩,fun _=>rfl⟩ ?_;refine wpAnyIn_take (i:=9) (v:=(.int .u64 (q:Nat))) rfl rfl (by kernel_rfl) (by kernel_rfl) (by kernel_rfl) (fun _ _ _ h=>h) ⟨Or.inl ⟨by rfl,fun _=>by go_simp⟩,fun _=>rfl⟩ ?_;refine wpAnyIn_take (i:=10) (v:=(.int .u32 (e:Nat))) rfl rfl (by kernel_rfl) (by kernel_rfl) (by kernel_rfl) (fun _ _ _ h=>h) ⟨Or.inl ⟨by rfl,fun _=>by go_simp⟩,fun _=>rfl⟩ ?_;refine wpAnyIn_ready (rs:=[11]) (by kernel_rfl) (by simp) (AllReadyIn.cons rfl (fun K hK=>?_) (AllReadyIn.nil))
     go_simp;refine hK _ _ ?_;clear hK K
     refine wpAnyIn_ready (rs:=[12]) (by kernel_rfl) (by simp) (AllReadyIn.cons rfl (fun K hK=>?_) (AllReadyIn.nil))
     go_simp;refine hK _ _ ?_;clear hK K
     refine wpAnyIn_done (by kernel_rfl) ?_ _
     gi_wp2_with fail
     exact FINH.out
  .go_simp;refine hK _ _ ?_;clear hK K
   refine wpAnyIn_take (i:=3) (v:=(.int .u64 (a:Nat))) rfl rfl (by kernel_rfl) (by kernel_rfl) (by kernel_rfl) (fun _ _ _ h=>h) ⟨Or.inl ⟨by rfl,fun _=>by go_simp⟩,fun _=>rfl⟩ ?_;refine wpAnyIn_take (i:=4) (v:=(.int .u64 ((a:Nat)*4294967296))) rfl rfl (by kernel_rfl) (by kernel_rfl) (by kernel_rfl) (fun _ _ _ h=>h) ⟨Or.inl ⟨by rfl,fun _=>by go_simp⟩,fun _=>rfl⟩ ?_;refine wpAnyIn_take (i:=7) (v:=(.int .u64 (t:Nat))) rfl rfl (by kernel_rfl) (by kernel_rfl) (by kernel_rfl) (fun _ _ _ h=>h) ⟨Or.inl ⟨by rfl,fun _=>by go_simp⟩,fun _=>rfl⟩ ?_;refine wpAnyIn_ready (rs:=[0,8]) (by kernel_rfl) (by simp) (AllReadyIn.cons rfl (fun K hK=>?_) (AllReadyIn.cons rfl (fun K hK=>?_) (AllReadyIn.nil)))
   .go_simp;refine hK _ _ ?_;clear hK K
    refine wpAnyIn_ready (rs:=[8]) (by kernel_rfl) (by simp) (AllReadyIn.cons rfl (fun K hK=>?_) (AllReadyIn.nil))
    .go_simp;refine hK _ _ ?_;clear hK K
     refine wpAnyIn_take (i:=9) (v:=(.int .u64 (q:Nat))) rfl rfl (by kernel_rfl) (by kernel_rfl) (by kernel_rfl) (fun _ _ _ h=>h) ⟨Or.inl ⟨by rfl,fun _=>by go_simp⟩,fun _=>rfl⟩ ?_;refine wpAnyIn_take (i:=10) (v:=(.int .u32 (e:Nat))) rfl rfl (by kernel_rfl) (by kernel_rfl) (by kernel_rfl) (fun _ _ _ h=>h) ⟨Or.inl ⟨by rfl,fun _=>by go_simp⟩,fun _=>rfl⟩ ?_;refine wpAnyIn_ready (rs:=[11]) (by kernel_rfl) (by simp) (AllReadyIn.cons rfl (fun K hK=>?_) (AllReadyIn.nil))
     go_simp;refine hK _ _ ?_;clear hK K
     refine wpAnyIn_ready (rs:=[12]) (by kernel_rfl) (by simp) (AllReadyIn.cons rfl (fun K hK=>?_) (AllReadyIn.nil))
     go_simp;refine hK _ _ ?_;clear hK K
     refine wpAnyIn_done (by kernel_rfl) ?_ _
     gi_wp2_with fail
     exact FINH.out
   .go_simp;refine hK _ _ ?_;clear hK K
    refine wpAnyIn_take (i:=9) (v:=(.int .u64 (q:Nat))) rfl rfl (by kernel_rfl) (by kernel_rfl) (by kernel_rfl) (fun _ _ _ h=>h) ⟨Or.inl ⟨by rfl,fun _=>by go_simp⟩,fun _=>rfl⟩ ?_;refine wpAnyIn_take (i:=10) (v:=(.int .u32 (e:Nat))) rfl rfl (by kernel_rfl) (by kernel_rfl) (by kernel_rfl) (fun _ _ _ h=>h) ⟨Or.inl ⟨by rfl,fun _=>by go_simp⟩,fun _=>rfl⟩ ?_;refine wpAnyIn_ready (rs:=[0]) (by kernel_rfl) (by simp) (AllReadyIn.cons rfl (fun K hK=>?_) (AllReadyIn.nil))
    .go_simp;refine hK _ _ ?_;clear hK K
     refine wpAnyIn_ready (rs:=[11]) (by kernel_rfl) (by simp) (AllReadyIn.cons rfl (fun K hK=>?_) (AllReadyIn.nil))
     go_simp;refine hK _ _ ?_;clear hK K
     refine wpAnyIn_ready (rs:=[12]) (by kernel_rfl) (by simp) (AllReadyIn.cons rfl (fun K hK=>?_) (AllReadyIn.nil))
     go_simp;refine hK _ _ ?_;clear hK K
     refine wpAnyIn_done (by kernel_rfl) ?_ _
     gi_wp2_with fail
     exact FINH.out
  .go_simp;refine hK _ _ ?_;clear hK K
   refine wpAnyIn_ready (rs:=[0,2]) (by kernel_rfl) (by simp) (AllReadyIn.cons rfl (fun K hK=>?_) (AllReadyIn.cons rfl (fun K hK=>?_) (AllReadyIn.nil)))
   .go_simp;refine hK _ _ ?_;clear hK K
    refine wpAnyIn_ready (rs:=[2]) (by kernel_rfl) (by simp) (AllReadyIn.cons rfl (fun K hK=>?_) (AllReadyIn.nil))
    .go_simp;refine hK _ _ ?_;clear hK K
     refine wpAnyIn_take (i:=3) (v:=(.int .u64 (a:Nat))) rfl rfl (by kernel_rfl) (by kernel_rfl) (by kernel_rfl) (fun _ _ _ h=>h) ⟨Or.inl ⟨by rfl,fun _=>by go_simp⟩,fun _=>rfl⟩ ?_;refine wpAnyIn_take (i:=4) (v:=(.int .u64 ((a:Nat)*4294967296))) rfl rfl (by kernel_rfl) (by kernel_rfl) (by kernel_rfl) (fun _ _ _ h=>h) ⟨Or.inl ⟨by rfl,fun _=>by go_simp⟩,fun _=>rfl⟩ ?_;refine wpAnyIn_take (i:=7) (v:=(.int .u64 (t:Nat))) rfl rfl (by kernel_rfl) (by kernel_rfl) (by kernel_rfl) (fun _ _ _ h=>h) ⟨Or.inl ⟨by rfl,fun _=>by go_simp⟩,fun _=>rfl⟩ ?_;refine wpAnyIn_take (i:=9) (v:=(.int .u64 (q:Nat))) rfl rfl (by kernel_rfl) (by kernel_rfl) (by kernel_rfl) (fun _ _ _ h=>h) ⟨Or.inl ⟨by rfl,fun _=>by go_simp⟩,fun _=>rfl⟩ ?_;refine wpAnyIn_take (i:=10) (v:=(.int .u32 (e:Nat))) rfl rfl (by kernel_rfl) (by kernel_rfl) (by kernel_rfl) (fun _ _ _ h=>h) ⟨Or.inl ⟨by rfl,fun _=>by go_simp⟩,fun _=>rfl⟩ ?_;refine wpAnyIn_ready (rs:=[11]) (by kernel_rfl) (by simp) (AllReadyIn.cons rfl (fun K hK=>?_) (AllReadyIn.nil))
     go_simp;refine hK _ _ ?_;clear hK K
     refine wpAnyIn_ready (rs:=[12]) (by kernel_rfl) (by simp) (AllReadyIn.cons rfl (fun K hK=>?_) (AllReadyIn.nil))
     go_simp;refine hK _ _ ?_;clear hK K
     refine wpAnyIn_done (by kernel_rfl) ?_ _
     gi_wp2_with fail
     exact FINH.out
   .go_simp;refine hK _ _ ?_;clear hK K
    refine wpAnyIn_take (i:=3) (v:=(.int .u64 (a:Nat))) rfl rfl (by kernel_rfl) (by kernel_rfl) (by kernel_rfl) (fun _ _ _ h=>h) ⟨Or.inl ⟨by rfl,fun _=>by go_simp⟩,fun _=>rfl⟩ ?_;refine wpAnyIn_take (i:=4) (v:=(.int .u64 ((a:Nat)*4294967296))) rfl rfl (by kernel_rfl) (by kernel_rfl) (by kernel_rfl) (fun _ _ _ h=>h) ⟨Or.inl ⟨by rfl,fun _=>by go_simp⟩,fun _=>rfl⟩ ?_;refine wpAnyIn_take (i:=7) (v:=(.int .u64 (t:Nat))) rfl rfl (by kernel_rfl) (by kernel_rfl) (by kernel_rfl) (fun _ _ _ h=>h) ⟨Or.inl ⟨by rfl,fun _=>by go_simp⟩,fun _=>rfl⟩ ?_;refine wpAnyIn_take (i:=9) (v:=(.int .u64 (q:Nat))) rfl rfl (by kernel_rfl) (by kernel_rfl) (by kernel_rfl) (fun _ _ _ h=>h) ⟨Or.inl ⟨by rfl,fun _=>by go_simp⟩,fun _=>rfl⟩ ?_;refine wpAnyIn_take (i:=10) (v:=(.int .u32 (e:Nat))) rfl rfl (by kernel_rfl) (by kernel_rfl) (by kernel_rfl) (fun _ _ _ h=>h) ⟨Or.inl ⟨by rfl,fun _=>by go_simp⟩,fun _=>rfl⟩ ?_;refine wpAnyIn_ready (rs:=[0]) (by kernel_rfl) (by simp) (AllReadyIn.cons rfl (fun K hK=>?_) (AllReadyIn.nil))
    .go_simp;refine hK _ _ ?_;clear hK K
     refine wpAnyIn_ready (rs:=[11]) (by kernel_rfl) (by simp) (AllReadyIn.cons rfl (fun K hK=>?_) (AllReadyIn.nil))
     go_simp;refine hK _ _ ?_;clear hK K
     refine wpAnyIn_ready (rs:=[12]) (by kernel_rfl) (by simp) (AllReadyIn.cons rfl (fun K hK=>?_) (AllReadyIn.nil))
     go_simp;refine hK _ _ ?_;clear hK K
     refine wpAnyIn_done (by kernel_rfl) ?_ _
     gi_wp2_with fail
     exact FINH.out
 case done =>
  rintro W ⟨hbf,cX,cD,cR,cB,hgr⟩ hK;rw[Nat.sub_self,shrFrom_zero]at hbf;have HEND:Hid (Buf .u32 89 g sz (shrRow s xs) W/\w.grownBy W (some g)/\W.heap[W0.heap.size]?=some (.deferred (some []))):=⟨hbf,hgr,hK⟩
  clear hbf cX cD cR cB hgr bX bD bR bB hg0 hbuf0 dx hK
  gi_wp2
  obtain ⟨e1,e2,e3⟩:=HEND.out;refine ⟨by simp,.inl ⟨_,_,rfl,run_takeDeferred e3,?_⟩⟩;exact ⟨_,results_none rfl _ _ _,⟨_,rfl⟩,e1.kept (grownBy_putObj' _ _ _) (by simp;omega),Grown.later e2 (grownBy_putObj' _ _ _) (by simp;omega)⟩
 case stop=>exact fun _ _ _ _ h _=>h.elim
end Go.Proofs.YtglhdielkkhefaaGreat

namespace Go.Proofs.YtglhdielkkhefaaGreat
open Go.RowKit Go.Shelf
def SubSt (w:World)(g sz g2 sz2 B f r:Nat)(cr:Int)(Q ys:List Nat)(W:World):Prop :=
 Buf .u32 89 g sz Q W/\Buf .u32 89 g2 sz2 ys W/\Boxed W B 89 (.int .u32 (f:Nat))/\Boxed W (B+1) 111 (.int .u64 (r:Nat)) /\
  Boxed W (B+2) 2 (.int .i64 1)/\Boxed W (B+3) 2 (.int .i64 (-1))/\Boxed W (B+4) 2 (.int .i64 cr)/\w.grownBy W (some g)
section
variable {w W : World} {g sz g2 sz2 B f r : Nat} {cr : Int} {Q ys : List Nat}
theorem SubSt.mul (h:SubSt w g sz g2 sz2 B f r cr Q ys W)(hg:g<B)(hg2:g2<B)(hB:w.heap.size<=B)(r':Nat):SubSt w g sz g2 sz2 B f r' cr Q ys (W.setCell ⟨B+1,0,none⟩ (.int .u64 (r':Nat))):=by
 obtain ⟨a,b,c,d,e,i,j,k⟩:=h;have G:=grownBy_at W (B+1) 0 (.int .u64 (r':Nat));exact ⟨a.kept G (by simp;omega),b.kept G (by simp;omega),c.kept G (by simp),d.set _,e.kept G (by simp),i.kept G (by simp),j.kept G (by simp),Grown.later k G (by simp;omega)⟩
theorem SubSt.less (h:SubSt w g sz g2 sz2 B f r cr Q ys W)(hg:g<B)(hg2:g2<B)(hB:w.heap.size<=B)(cr':Int):SubSt w g sz g2 sz2 B f r cr' Q ys (W.setCell ⟨B+4,0,none⟩ (.int .i64 cr')):=by
 obtain ⟨a,b,c,d,e,i,j,k⟩:=h;have G:=grownBy_at W (B+4) 0 (.int .i64 cr');exact ⟨a.kept G (by simp;omega),b.kept G (by simp;omega),c.kept G (by simp),d.kept G (by simp),e.kept G (by simp),i.kept G (by simp),j.set _,Grown.later k G (by simp;omega)⟩
theorem SubSt.put (h:SubSt w g sz g2 sz2 B f r cr Q ys W)(hg:g<B)(hne:g2≠g)(j d:Nat):SubSt w g sz g2 sz2 B f r cr (Q.set j d) ys (W.setCell ⟨g,j,none⟩ (.int .u32 (d:Nat))):=by
 obtain ⟨a,b,c,d',e,i,j',k⟩:=h;have G:=grownBy_at W g j (.int .u32 (d:Nat));exact ⟨a.set _ _,b.kept G (by simp;omega),c.kept G (by simp;omega),d'.kept G (by simp;omega),e.kept G (by simp;omega),i.kept G (by simp;omega),j'.kept G (by simp;omega),Grown.trans k G⟩
theorem SubSt.drew (h:SubSt w g sz g2 sz2 B f r cr Q ys W):SubSt w g sz g2 sz2 B f r cr Q ys W.drew:=by
 obtain ⟨a,b,c,d',e,i,j',k⟩:=h;exact ⟨a,b,c,d',e,i,j',Grown.drew k⟩
theorem SubSt.start {w:World}(ha:Buf .u32 89 g sz Q w)(hb:Buf .u32 89 g2 sz2 ys w):SubSt w g sz g2 sz2 w.heap.size f 0 0 Q ys (((((w.alloc (.cells #[.int .u32 (f:Nat)] 89)).alloc (.cells #[.int .u64 0] 111)).alloc (.cells #[.int .i64 1] 2)).alloc (.cells #[.int .i64 (-1)] 2)).alloc (.cells #[.int .i64 0] 2)):=by
 have G:∀(V:World) (o:Obj),V.grownBy (V.alloc o) none:=fun V o=>World.grownBy_alloc _ _ none
 have b0:=Boxed.new w 89 (.int .u32 (f:Nat));have b1:=Boxed.new (w.alloc (.cells #[.int .u32 (f:Nat)] 89)) 111 (.int .u64 0);have b2:=Boxed.new ((w.alloc (.cells #[.int .u32 (f:Nat)] 89)).alloc (.cells #[.int .u64 0] 111)) 2 (.int .i64 1);have b3:=Boxed.new (((w.alloc (.cells #[.int .u32 (f:Nat)] 89)).alloc (.cells #[.int .u64 0] 111)).alloc (.cells #[.int .i64 1] 2)) 2 (.int .i64 (-1));have b4:=Boxed.new ((((w.alloc (.cells #[.int .u32 (f:Nat)] 89)).alloc (.cells #[.int .u64 0] 111)).alloc (.cells #[.int .i64 1] 2)).alloc (.cells #[.int .i64 (-1)] 2)) 2 (.int .i64 0);simp only[szA]at b1 b2 b3 b4;refine ⟨?_,?_,(((b0.alloc _).alloc _).alloc _).alloc _,((b1.alloc _).alloc _).alloc _,(b2.alloc _).alloc _,b3.alloc _,b4,?_⟩
 .exact ((((ha.kept (G _ _) (by simp)).kept (G _ _) (by simp)).kept (G _ _) (by simp)).kept (G _ _) (by simp)).kept (G _ _) (by simp)
 .exact ((((hb.kept (G _ _) (by simp)).kept (G _ _) (by simp)).kept (G _ _) (by simp)).kept (G _ _) (by simp)).kept (G _ _) (by simp)
 .exact Grown.trans (Grown.trans (Grown.trans (Grown.trans (World.grownBy_alloc _ _ _) (World.grownBy_alloc _ _ _)) (World.grownBy_alloc _ _ _)) (World.grownBy_alloc _ _ _)) (World.grownBy_alloc _ _ _)
end
theorem less_step (v p cc B:Nat)(w:World)(hv:v<4294967296)(hp:p<4294967296)(hc:cc<=1)
  (cp:Boxed w (B+2) 2 (.int .i64 1)) (cq:Boxed w (B+3) 2 (.int .i64 (-1))) (cr:Boxed w (B+4) 2 (.int .i64 (-(cc:Int)))) {d c':Nat} (hd:d<4294967296) (h:(v:Int)-(p:Int)-(cc:Int)=(d:Int)-4294967296*(c':Int)) :
  Calls Tryz.prog 189 #[.int .u32 (v:Nat),.int .u32 (p:Nat),.pointer (some ⟨B+2,0,none⟩),.pointer (some ⟨B+3,0,none⟩),.pointer (some ⟨B+4,0,none⟩)] w fun e w' =>
   e=.returned (.int .u32 (d:Nat))/\w'=w.setCell ⟨B+4,0,none⟩ (.int .i64 (-(c':Int))):=by
 refine (combiner1_any 1 (-1) (-(cc:Int)) v p (B+2) (B+3) (B+4) w hv hp cp.cell cq.cell cr.cell cr.frozen (by omega) (by omega) (by omega) (by omega) (by omega) (by omega) (by omega) (by omega)).mono ?_;rintro e w' ⟨rfl,rfl⟩;have e1:(1*(v:Int)+-1*(p:Int)+-(cc:Int)) % 4294967296=(d:Int):=by omega
 have e2:(1*(v:Int)+-1*(p:Int)+-(cc:Int)) / 4294967296=-(c':Int):=by omega
 rw[e1,e2];exact ⟨rfl,rfl⟩
theorem prod_step (f u r B:Nat)(w:World)(hf:f<4294967296)(hu:u<4294967296)(hr:r<4294967296)(cf:Boxed w B 89 (.int .u32 (f:Nat)))(cr:Boxed w (B+1) 111 (.int .u64 (r:Nat))){p r':Nat}(hp:(f*u+r) % b32=p)(hr':(f*u+r) / b32=r') :
  Calls Tryz.prog 191 #[.int .u32 (u:Nat),.int .u32 0,.pointer (some ⟨B,0,none⟩),.pointer (some ⟨B+1,0,none⟩)] w fun e w' =>
   e=.returned (.int .u32 (p:Nat))/\w'=w.setCell ⟨B+1,0,none⟩ (.int .u64 (r':Nat)):=by
 have h:=multiplier1_any f u 0 r B (B+1) w hf hu (by decide) hr cf.cell cr.cell cr.frozen;rw[show f*u+0+r=f*u+r from rfl,show (4294967296:Nat)=b32 from rfl,hp,hr']at h;exact h
def Out (o n:Nat)(P Q:List Nat):Prop:=∀j,j<o∨o+n<j->Q.getD j 0=P.getD j 0
theorem Out.set {o n j v:Nat}{P Q:List Nat}(h:Out o n P Q)(h1:o<=j)(h2:j<=o+n):Out o n P (Q.set j v):=fun i hi=>by rw[getD_set_other Q v (by omega)];exact h i hi
theorem subMul_any {g g2 sz sz2 o cap c2 f:Nat}{P0 ys:List Nat}{w:World}(hb:Buf .u32 89 g sz P0 w)(hd:Dg b32 P0)(hy:Buf .u32 89 g2 sz2 ys w)(dy:Dg b32 ys)(hne:g2≠g)(hl:o+ys.length+1<=P0.length)(hf:f<4294967296)(hsm:P0.length<=4294967297)(hcap:ys.length+1<=cap)(hcap2:cap<=9223372036854775807) :
  Calls Tryz.prog 186 #[.slice (some ⟨g,o,none⟩) (ys.length+1) cap,.slice (some ⟨g2,0,none⟩) ys.length c2,.int .u32 (f:Nat)] w fun e w'=>∃(Q:List Nat) (c:Nat),e=.returned (.bool (decide (c=1)))/\c<=1/\Q.length=P0.length/\Dg b32 Q /\
   Out o ys.length P0 Q/\val b32 P0+b32 ^ (o+(ys.length+1))*c=val b32 Q+b32 ^ o*(f*val b32 ys)/\Buf .u32 89 g sz Q w'/\w.grownBy w' (some g):=by
 have S0:=SubSt.start (f:=f) hb hy;have hgB:=hb.lt;have hgB2:=hy.lt;have HDY:=Hd dy;clear dy hb hy
 go_enter Tryz.func186,Tryz.ntmps186
 go_wp2_with fail
 refine (multiplier_any f _).mono ?_;rintro e w5 ⟨rfl,rfl⟩
 go_wp2_with fail
 refine (combiner_any 1 (-1) _).mono ?_;rintro e w6 ⟨rfl,rfl⟩;obtain ⟨W0,hW0⟩:∃W0,W0=(((((w.alloc (.cells #[.int .u32 (f:Nat)] 89)).alloc (.cells #[.int .u64 0] 111)).alloc (.cells #[.int .i64 1] 2)).alloc (.cells #[.int .i64 (-1)] 2)).alloc (.cells #[.int .i64 0] 2)):=⟨_,rfl⟩
 simp only[szA];rw[<-hW0]at S0 ⊢;clear hW0;obtain ⟨B,eB⟩:∃B,w.heap.size=B:=⟨_,rfl⟩
 have hBw:w.heap.size<=B:=by omega
 rw[eB]at S0 hgB hgB2 ⊢;clear eB;have h0:Hid (val b32 P0+b32 ^ (o+0)*(0+0)=val b32 P0+b32 ^ o*(f*val b32 (ys.take 0))):=by show _=_;simp[val]
 go_wp2
 go_loopw [16] (fun kv wi=>∃(k:Nat) (Q:List Nat) (r cc:Nat),kv=.int .i64 k/\k<=ys.length/\Q.length=P0.length/\Dg b32 Q/\Hid (Out o ys.length P0 Q)/\r<b32/\cc<=1/\Hid (val b32 P0+b32 ^ (o+k)*(r+cc)=val b32 Q+b32 ^ o*(f*val b32 (ys.take k)))/\SubSt w g sz g2 sz2 B f r (-(cc:Int)) Q ys wi)
  (fun kv _=>ys.length-(intOf kv).toNat)
 case atStart=>exact ⟨0,P0,0,0,rfl,Nat.zero_le _,rfl,hd,fun _ _=>rfl,by decide,by decide,h0,S0⟩
 case round =>
  obtain ⟨k,Q,r,cc,rfl,hk,hQl,hQd,HO,hr,hcc,HV,hst⟩:=hrel
  by_cases hkl:k<ys.length
  .have ey:=hst.2.1.cell hkl;rw[<-getD_at hkl]at ey;have hu:=getD_dg (by decide) HDY.out k;have hik:o+k<Q.length:=by omega
   have ev:=hst.1.cell hik;rw[<-getD_at hik]at ev;have hv:=getD_dg (by decide) hQd (o+k);have HTY:=Hd (val_take_succ (b:=b32) ys k);obtain ⟨u,eu⟩:∃u,Hid (ys.getD k 0=u):=⟨_,rfl⟩
   obtain ⟨v,hvv⟩:∃v,Hid (Q.getD (o+k) 0=v):=⟨_,rfl⟩
   rw[eu.out]at ey hu HTY;rw[hvv.out]at ev hv;obtain ⟨d,c',hdd,hc',hds,hval⟩:=sub_step (f:=f) (u:=u) (r:=r) (by decide) hik hvv.out hv hcc HV.out;rw[<-HTY.out]at hval;have hpl:(f*u+r) % b32<b32:=Nat.mod_lt _ (by decide);have hclt:=carry_lt hf hu (show 0<b32 by decide) hr;have hcar:(f*u+r) / b32<b32:=by rw[Nat.div_lt_iff_lt_mul (by decide)];exact hclt
   obtain ⟨p,ep⟩:∃p,(f*u+r) % b32=p:=⟨_,rfl⟩
   obtain ⟨r',er⟩:∃r',(f*u+r) / b32=r':=⟨_,rfl⟩
   have s1:=hst.drew;have s2:=s1.mul hgB hgB2 hBw r';have s3:=s2.less hgB hgB2 hBw (-(c':Int));have s4:=s3.put hgB hne (o+k) d;have ST1:=Hd (prod_step f u r B wr.drew hf hu hr s1.2.2.1 s1.2.2.2.1 ep er);rw[ep]at hds hpl;rw[er]at hval hcar;have ST2:=Hd (less_step v p cc B _ hv hpl hcc s2.2.2.2.2.1 s2.2.2.2.2.2.1 s2.2.2.2.2.2.2.1 hdd hds);have ev3:=s3.1.cell hik;have f3:=s3.1.frozen (o+k);have ev1:=s1.1.cell hik;rw[<-getD_at hik,hvv.out]at ev1;have ev2:=s2.1.cell hik;rw[<-getD_at hik,hvv.out]at ev2;have fv3:=hst.1.frozen (o+k);rw[<-getD_at hik,hvv.out]at ev3;have S4:=Hd s4;have HVL:=Hd hval;have hk2:(k:Int)<(ys.length:Int)+1:=by omega
   clear s1 s2 s3 s4 hval hclt hds ep er HV hst
   go_wp2_with fail
   refine wp_region_any (by kernel_rfl) ?_;refine (show wpAny _ _ _ _ _ _ _ (World.drew _) from ?_);refine wpAny_take (i:=0) (v:=(.slice (some ⟨g,o,none⟩) (ys.length+1) cap)) rfl (by kernel_rfl) (by kernel_rfl) (by kernel_rfl) (fun _ _ _ h=>h) (Or.inl ⟨by rfl,fun _=>by go_simp⟩) ?_;refine wpAny_take (i:=1) (v:=(.int .i64 (k:Nat))) rfl (by kernel_rfl) (by kernel_rfl) (by kernel_rfl) (fun _ _ _ h=>h) (Or.inl ⟨by rfl,fun _=>by go_simp⟩) ?_;refine wpAny_take (i:=2) (v:=(.func (.func 189) #[] #[.pointer (some ⟨B+2,0,none⟩),.pointer (some ⟨B+3,0,none⟩),.pointer (some ⟨B+4,0,none⟩)])) rfl (by kernel_rfl) (by kernel_rfl) (by kernel_rfl) (fun _ _ _ h=>h) (Or.inl ⟨by rfl,fun _=>by go_simp⟩) ?_;refine wpAny_take (i:=3) (v:=(.slice (some ⟨g,o,none⟩) (ys.length+1) cap)) rfl (by kernel_rfl) (by kernel_rfl) (by kernel_rfl) (fun _ _ _ h=>h) (Or.inl ⟨by rfl,fun _=>by go_simp⟩) ?_;refine wpAny_take (i:=4) (v:=(.int .i64 (k:Nat))) rfl (by kernel_rfl) (by kernel_rfl) (by kernel_rfl) (fun _ _ _ h=>h) (Or.inl ⟨by rfl,fun _=>by go_simp⟩) ?_;refine wpAny_take (i:=5) (v:=(.pointer (some ⟨g,o+k,none⟩))) rfl (by kernel_rfl) (by kernel_rfl) (by kernel_rfl) (fun _ _ _ h=>h) (Or.inl ⟨by rfl,fun _=>by go_simp⟩) ?_;refine wpAny_take (i:=7) (v:=(.func (.func 191) #[] #[.pointer (some ⟨B,0,none⟩),.pointer (some ⟨B+1,0,none⟩)])) rfl (by kernel_rfl) (by kernel_rfl) (by kernel_rfl) (fun _ _ _ h=>h) (Or.inl ⟨by rfl,fun _=>by go_simp⟩) ?_;refine wpAny_take (i:=8) (v:=(.int .u32 (u:Nat))) rfl (by kernel_rfl) (by kernel_rfl) (by kernel_rfl) (fun _ _ _ h=>h) (Or.inl ⟨by rfl,fun _=>by go_simp⟩) ?_;refine wpAny_ready (rs:=[6,9]) (by kernel_rfl) (by simp) (AllReady.cons rfl (fun K hK=>?_) (AllReady.cons rfl (fun K hK=>?_) (AllReady.nil)))
   .go_simp;refine hK _ _ ?_;clear hK K
    refine wpAny_ready (rs:=[9]) (by kernel_rfl) (by simp) (AllReady.cons rfl (fun K hK=>?_) (AllReady.nil))
    go_simp;refine ST1.out.mono ?_;rintro e w' ⟨rfl,rfl⟩;refine hK _ _ ?_;clear hK K
    refine wpAny_ready (rs:=[10]) (by kernel_rfl) (by simp) (AllReady.cons rfl (fun K hK=>?_) (AllReady.nil))
    go_simp;refine ST2.out.mono ?_;rintro e w' ⟨rfl,rfl⟩;refine hK _ _ ?_;clear hK K
    refine wpAny_take (i:=11) (v:=(.pointer (some ⟨g,o+k,none⟩))) rfl (by kernel_rfl) (by kernel_rfl) (by kernel_rfl) (fun _ _ _ h=>h) (Or.inl ⟨by rfl,fun _=>by go_simp⟩) ?_;refine wpAny_ready (rs:=[12]) (by kernel_rfl) (by simp) (AllReady.cons rfl (fun K hK=>?_) (AllReady.nil))
    go_simp;refine hK _ _ ?_;clear hK K
    refine wpAny_done (by kernel_rfl) ?_ _;go_wp2
    go_roundw
    case rel=>exact ⟨k+1,Q.set (o+k) d,r',c',by simp,by omega,by rw[List.length_set];exact hQl,hQd.set _ hdd,HO.out.set (by omega) (by omega),hcar,hc',HVL,S4.out⟩
    case measure=>simp[intOf];omega
   .go_simp;refine ST1.out.mono ?_;rintro e w' ⟨rfl,rfl⟩;refine hK _ _ ?_;clear hK K
    refine wpAny_ready (rs:=[6]) (by kernel_rfl) (by simp) (AllReady.cons rfl (fun K hK=>?_) (AllReady.nil))
    go_simp;refine hK _ _ ?_;clear hK K
    refine wpAny_ready (rs:=[10]) (by kernel_rfl) (by simp) (AllReady.cons rfl (fun K hK=>?_) (AllReady.nil))
    go_simp;refine ST2.out.mono ?_;rintro e w' ⟨rfl,rfl⟩;refine hK _ _ ?_;clear hK K
    refine wpAny_take (i:=11) (v:=(.pointer (some ⟨g,o+k,none⟩))) rfl (by kernel_rfl) (by kernel_rfl) (by kernel_rfl) (fun _ _ _ h=>h) (Or.inl ⟨by rfl,fun _=>by go_simp⟩) ?_;refine wpAny_ready (rs:=[12]) (by kernel_rfl) (by simp) (AllReady.cons rfl (fun K hK=>?_) (AllReady.nil))
    go_simp;refine hK _ _ ?_;clear hK K
    refine wpAny_done (by kernel_rfl) ?_ _;go_wp2
    go_roundw
    case rel=>exact ⟨k+1,Q.set (o+k) d,r',c',by simp,by omega,by rw[List.length_set];exact hQl,hQd.set _ hdd,HO.out.set (by omega) (by omega),hcar,hc',HVL,S4.out⟩
    case measure=>simp[intOf];omega
  .obtain rfl:k=ys.length:=by omega
   have hik:o+ys.length<Q.length:=by omega
   have ev:=hst.1.cell hik;rw[<-getD_at hik]at ev;have hv:=getD_dg (by decide) hQd (o+ys.length);obtain ⟨v,hvv⟩:∃v,Hid (Q.getD (o+ys.length) 0=v):=⟨_,rfl⟩
   rw[hvv.out]at ev hv;obtain ⟨d,c',hdd,hc',hds,hval⟩:=sub_step (f:=f) (u:=0) (r:=r) (by decide) hik hvv.out hv hcc HV.out;have ep:(f*0+r) % b32=r:=by rw[Nat.mul_zero,Nat.zero_add];exact Nat.mod_eq_of_lt hr
   have er:(f*0+r) / b32=0:=by rw[Nat.mul_zero,Nat.zero_add];exact Nat.div_eq_of_lt hr
   rw[ep]at hds;rw[er,Nat.mul_zero,Nat.zero_add,Nat.add_zero,List.take_of_length_le (Nat.le_refl _)]at hval;have s1:=hst.drew;have s2:=s1.mul hgB hgB2 hBw 0;have s3:=s2.less hgB hgB2 hBw (-(c':Int));have s4:=s3.put hgB hne (o+ys.length) d;have ST1:=Hd (prod_step f 0 r B wr.drew hf (by decide) hr s1.2.2.1 s1.2.2.2.1 ep er);have ST2:=Hd (less_step v r cc B _ hv hr hcc s2.2.2.2.2.1 s2.2.2.2.2.2.1 s2.2.2.2.2.2.2.1 hdd hds);have ev1:=s1.1.cell hik;rw[<-getD_at hik,hvv.out]at ev1;have ev2:=s2.1.cell hik;rw[<-getD_at hik,hvv.out]at ev2;have ev3:=s3.1.cell hik;rw[<-getD_at hik,hvv.out]at ev3;have f3:=s3.1.frozen (o+ys.length);have fv3:=hst.1.frozen (o+ys.length);obtain ⟨z,hz,hzd⟩:∃z:Nat,(z<4294967296/\((0:Nat):Int)-((0:Nat):Int)-(c':Int)=(z:Int)-4294967296*(c':Int))/\((c'=1/\z=4294967295)∨(c'=0/\z=0)):=⟨c'*4294967295,⟨by omega,by omega⟩,by omega⟩
   have ST3:=Hd (less_step 0 0 c' B _ (by decide) (by decide) hc' s4.2.2.2.2.1 s4.2.2.2.2.2.1 s4.2.2.2.2.2.2.1 hz.1 hz.2);have s5:=s4.less hgB hgB2 hBw (-(c':Int))
   have RET:Hid (decide (c'=1)=((z:Int) != 0)):=by
    show _=_
    rcases hzd with ⟨rfl,rfl⟩|⟨rfl,rfl⟩<;>rfl
   have S5:=Hd s5;have HVL:=Hd hval;have hk2:(ys.length:Int)<(ys.length:Int)+1:=by omega
   clear s1 s2 s3 s4 s5 hval hds ep er HV hst hz hzd
   go_wp2_with fail
   refine wp_region_any (by kernel_rfl) ?_;refine (show wpAny _ _ _ _ _ _ _ (World.drew _) from ?_);refine wpAny_take (i:=0) (v:=(.slice (some ⟨g,o,none⟩) (ys.length+1) cap)) rfl (by kernel_rfl) (by kernel_rfl) (by kernel_rfl) (fun _ _ _ h=>h) (Or.inl ⟨by rfl,fun _=>by go_simp⟩) ?_;refine wpAny_take (i:=1) (v:=(.slice (some ⟨g2,0,none⟩) ys.length c2)) rfl (by kernel_rfl) (by kernel_rfl) (by kernel_rfl) (fun _ _ _ h=>h) (Or.inl ⟨by rfl,fun _=>by go_simp⟩) ?_;refine wpAny_take (i:=2) (v:=(.int .i64 (ys.length:Nat))) rfl (by kernel_rfl) (by kernel_rfl) (by kernel_rfl) (fun _ _ _ h=>h) (Or.inl ⟨by rfl,fun _=>by go_simp⟩) ?_;refine wpAny_take (i:=3) (v:=(.func (.func 189) #[] #[.pointer (some ⟨B+2,0,none⟩),.pointer (some ⟨B+3,0,none⟩),.pointer (some ⟨B+4,0,none⟩)])) rfl (by kernel_rfl) (by kernel_rfl) (by kernel_rfl) (fun _ _ _ h=>h) (Or.inl ⟨by rfl,fun _=>by go_simp⟩) ?_;refine wpAny_take (i:=4) (v:=(.slice (some ⟨g,o,none⟩) (ys.length+1) cap)) rfl (by kernel_rfl) (by kernel_rfl) (by kernel_rfl) (fun _ _ _ h=>h) (Or.inl ⟨by rfl,fun _=>by go_simp⟩) ?_;refine wpAny_take (i:=5) (v:=(.slice (some ⟨g2,0,none⟩) ys.length c2)) rfl (by kernel_rfl) (by kernel_rfl) (by kernel_rfl) (fun _ _ _ h=>h) (Or.inl ⟨by rfl,fun _=>by go_simp⟩) ?_;refine wpAny_take (i:=6) (v:=(.int .i64 (ys.length:Nat))) rfl (by kernel_rfl) (by kernel_rfl) (by kernel_rfl) (fun _ _ _ h=>h) (Or.inl ⟨by rfl,fun _=>by go_simp⟩) ?_;refine wpAny_take (i:=7) (v:=(.pointer (some ⟨g,o+ys.length,none⟩))) rfl (by kernel_rfl) (by kernel_rfl) (by kernel_rfl) (fun _ _ _ h=>h) (Or.inl ⟨by rfl,fun _=>by go_simp⟩) ?_;refine wpAny_take (i:=9) (v:=(.func (.func 191) #[] #[.pointer (some ⟨B,0,none⟩),.pointer (some ⟨B+1,0,none⟩)])) rfl (by kernel_rfl) (by kernel_rfl) (by kernel_rfl) (fun _ _ _ h=>h) (Or.inl ⟨by rfl,fun _=>by go_simp⟩) ?_;refine wpAny_ready (rs:=[8,10]) (by kernel_rfl) (by simp) (AllReady.cons rfl (fun K hK=>?_) (AllReady.cons rfl (fun K hK=>?_) (AllReady.nil)))
   .go_simp;refine hK _ _ ?_;clear hK K
    refine wpAny_ready (rs:=[10]) (by kernel_rfl) (by simp) (AllReady.cons rfl (fun K hK=>?_) (AllReady.nil))
    go_simp;refine ST1.out.mono ?_;rintro e w' ⟨rfl,rfl⟩;refine hK _ _ ?_;clear hK K
    refine wpAny_ready (rs:=[11]) (by kernel_rfl) (by simp) (AllReady.cons rfl (fun K hK=>?_) (AllReady.nil))
    go_simp;refine ST2.out.mono ?_;rintro e w' ⟨rfl,rfl⟩;refine hK _ _ ?_;clear hK K
    refine wpAny_take (i:=12) (v:=(.pointer (some ⟨g,o+ys.length,none⟩))) rfl (by kernel_rfl) (by kernel_rfl) (by kernel_rfl) (fun _ _ _ h=>h) (Or.inl ⟨by rfl,fun _=>by go_simp⟩) ?_;refine wpAny_ready (rs:=[13]) (by kernel_rfl) (by simp) (AllReady.cons rfl (fun K hK=>?_) (AllReady.nil))
    go_simp;refine hK _ _ ?_;clear hK K
    refine wpAny_done (by kernel_rfl) ?_ _
    go_wp2_with fail
    refine ST3.out.mono ?_;rintro e w' ⟨rfl,rfl⟩;go_wp2
    go_ret
    exact ⟨Q.set (o+ys.length) d,c',(show Ending.returned (.bool ((z:Int) != 0))=_ from by rw[RET.out]),hc',by rw[List.length_set];exact hQl,hQd.set _ hdd,HO.out.set (by omega) (by omega),HVL.out,S5.out.1,S5.out.2.2.2.2.2.2.2⟩
   .go_simp;refine ST1.out.mono ?_;rintro e w' ⟨rfl,rfl⟩;refine hK _ _ ?_;clear hK K
    refine wpAny_ready (rs:=[8]) (by kernel_rfl) (by simp) (AllReady.cons rfl (fun K hK=>?_) (AllReady.nil))
    go_simp;refine hK _ _ ?_;clear hK K
    refine wpAny_ready (rs:=[11]) (by kernel_rfl) (by simp) (AllReady.cons rfl (fun K hK=>?_) (AllReady.nil))
    go_simp;refine ST2.out.mono ?_;rintro e w' ⟨rfl,rfl⟩;refine hK _ _ ?_;clear hK K
    refine wpAny_take (i:=12) (v:=(.pointer (some ⟨g,o+ys.length,none⟩))) rfl (by kernel_rfl) (by kernel_rfl) (by kernel_rfl) (fun _ _ _ h=>h) (Or.inl ⟨by rfl,fun _=>by go_simp⟩) ?_;refine wpAny_ready (rs:=[13]) (by kernel_rfl) (by simp) (AllReady.cons rfl (fun K hK=>?_) (AllReady.nil))
    go_simp;refine hK _ _ ?_;clear hK K
    refine wpAny_done (by kernel_rfl) ?_ _
    go_wp2_with fail
    refine ST3.out.mono ?_;rintro e w' ⟨rfl,rfl⟩;go_wp2
    go_ret
    exact ⟨Q.set (o+ys.length) d,c',(show Ending.returned (.bool ((z:Int) != 0))=_ from by rw[RET.out]),hc',by rw[List.length_set];exact hQl,hQd.set _ hdd,HO.out.set (by omega) (by omega),HVL.out,S5.out.1,S5.out.2.2.2.2.2.2.2⟩
end Go.Proofs.YtglhdielkkhefaaGreat

namespace Go.Proofs.YtglhdielkkhefaaGreat
open Go.RowKit Go.Shelf
def AddSt (w:World)(g sz g2 sz2 B:Nat)(cr:Nat)(Q ys:List Nat)(W:World):Prop :=
 Buf .u32 89 g sz Q W/\Buf .u32 89 g2 sz2 ys W /\
  Boxed W B 2 (.int .i64 1)/\Boxed W (B+1) 2 (.int .i64 1)/\Boxed W (B+2) 2 (.int .i64 (cr:Nat))/\w.grownBy W (some g)
section
variable {w W : World} {g sz g2 sz2 B : Nat} {cr : Nat} {Q ys : List Nat}
theorem AddSt.more (h:AddSt w g sz g2 sz2 B cr Q ys W)(hg:g<B)(hg2:g2<B)(hB:w.heap.size<=B)(cr':Nat):AddSt w g sz g2 sz2 B cr' Q ys (W.setCell ⟨B+2,0,none⟩ (.int .i64 (cr':Nat))):=by
 obtain ⟨a,b,e,i,j,k⟩:=h;have G:=grownBy_at W (B+2) 0 (.int .i64 (cr':Nat));exact ⟨a.kept G (by simp;omega),b.kept G (by simp;omega),e.kept G (by simp),i.kept G (by simp),j.set _,Grown.later k G (by simp;omega)⟩
theorem AddSt.put (h:AddSt w g sz g2 sz2 B cr Q ys W)(hg:g<B)(hne:g2≠g)(j d:Nat):AddSt w g sz g2 sz2 B cr (Q.set j d) ys (W.setCell ⟨g,j,none⟩ (.int .u32 (d:Nat))):=by
 obtain ⟨a,b,e,i,j',k⟩:=h;have G:=grownBy_at W g j (.int .u32 (d:Nat));exact ⟨a.set _ _,b.kept G (by simp;omega),e.kept G (by simp;omega),i.kept G (by simp;omega),j'.kept G (by simp;omega),Grown.trans k G⟩
theorem AddSt.start {w:World}(ha:Buf .u32 89 g sz Q w)(hb:Buf .u32 89 g2 sz2 ys w):AddSt w g sz g2 sz2 w.heap.size 0 Q ys (((w.alloc (.cells #[.int .i64 1] 2)).alloc (.cells #[.int .i64 1] 2)).alloc (.cells #[.int .i64 0] 2)):=by
 have G:∀(V:World) (o:Obj),V.grownBy (V.alloc o) none:=fun V o=>World.grownBy_alloc _ _ none
 have b2:=Boxed.new w 2 (.int .i64 1);have b3:=Boxed.new (w.alloc (.cells #[.int .i64 1] 2)) 2 (.int .i64 1);have b4:=Boxed.new ((w.alloc (.cells #[.int .i64 1] 2)).alloc (.cells #[.int .i64 1] 2)) 2 (.int .i64 0);simp only[szA]at b3 b4;refine ⟨?_,?_,(b2.alloc _).alloc _,b3.alloc _,b4,?_⟩
 .exact ((ha.kept (G _ _) (by simp)).kept (G _ _) (by simp)).kept (G _ _) (by simp)
 .exact ((hb.kept (G _ _) (by simp)).kept (G _ _) (by simp)).kept (G _ _) (by simp)
 .exact Grown.trans (Grown.trans (World.grownBy_alloc _ _ _) (World.grownBy_alloc _ _ _)) (World.grownBy_alloc _ _ _)
end
theorem more_step (v u cc B:Nat)(w:World)(hv:v<4294967296)(hu:u<4294967296)(hc:cc<=1)
  (cp:Boxed w B 2 (.int .i64 1)) (cq:Boxed w (B+1) 2 (.int .i64 1)) (cr:Boxed w (B+2) 2 (.int .i64 (cc:Nat))) {d c':Nat} (hd:(v+u+cc) % b32=d) (h:(v+u+cc) / b32=c') :
  Calls Tryz.prog 189 #[.int .u32 (v:Nat),.int .u32 (u:Nat),.pointer (some ⟨B,0,none⟩),.pointer (some ⟨B+1,0,none⟩),.pointer (some ⟨B+2,0,none⟩)] w fun e w' =>
   e=.returned (.int .u32 (d:Nat))/\w'=w.setCell ⟨B+2,0,none⟩ (.int .i64 (c':Nat)):=by
 refine (combiner1_any 1 1 (cc:Nat) v u B (B+1) (B+2) w hv hu cp.cell cq.cell cr.cell cr.frozen (by omega) (by omega) (by omega) (by omega) (by omega) (by omega) (by omega) (by omega)).mono ?_;rintro e w' ⟨rfl,rfl⟩;unfold b32 at hd h;have e1:(1*(v:Int)+1*(u:Int)+(cc:Nat)) % 4294967296=(d:Int):=by omega
 have e2:(1*(v:Int)+1*(u:Int)+(cc:Nat)) / 4294967296=(c':Int):=by omega
 rw[e1,e2];exact ⟨rfl,rfl⟩
def OutB (o n:Nat)(P Q:List Nat):Prop:=∀j,j<o∨o+n<j->Q.getD j 0=P.getD j 0
theorem OutB.set {o n j v:Nat}{P Q:List Nat}(h:OutB o n P Q)(h1:o<=j)(h2:j<=o+n):OutB o n P (Q.set j v):=fun i hi=>by rw[getD_set_other Q v (by omega)];exact h i hi
theorem addBack_any {g g2 sz sz2 o cap c2:Nat}{P0 ys:List Nat}{w:World}(hb:Buf .u32 89 g sz P0 w)(hd:Dg b32 P0)(hy:Buf .u32 89 g2 sz2 ys w)(dy:Dg b32 ys)(hne:g2≠g)(hl:o+ys.length+1<=P0.length)(hsm:P0.length<=4294967297)(hcap:ys.length+1<=cap)(hcap2:cap<=9223372036854775807) :
  Calls Tryz.prog 187 #[.slice (some ⟨g,o,none⟩) (ys.length+1) cap,.slice (some ⟨g2,0,none⟩) ys.length c2] w fun e w'=>∃(Q:List Nat) (c:Nat),(∃v,e=.returned v)/\c<=1/\Q.length=P0.length/\Dg b32 Q /\
   OutB o ys.length P0 Q/\val b32 Q+b32 ^ (o+(ys.length+1))*c=val b32 P0+b32 ^ o*val b32 ys/\Buf .u32 89 g sz Q w'/\w.grownBy w' (some g):=by
 have S0:=AddSt.start hb hy;have hgB:=hb.lt;have hgB2:=hy.lt;have HDY:=Hd dy;clear dy hb hy
 go_enter Tryz.func187,Tryz.ntmps187
 go_wp2_with fail
 refine (combiner_any 1 1 _).mono ?_;rintro e w6 ⟨rfl,rfl⟩;obtain ⟨W0,hW0⟩:∃W0,W0=(((w.alloc (.cells #[.int .i64 1] 2)).alloc (.cells #[.int .i64 1] 2)).alloc (.cells #[.int .i64 0] 2)):=⟨_,rfl⟩
 rw[<-hW0]at S0 ⊢;clear hW0;obtain ⟨B,eB⟩:∃B,w.heap.size=B:=⟨_,rfl⟩
 have hBw:w.heap.size<=B:=by omega
 rw[eB]at S0 hgB hgB2 ⊢;clear eB;have h0:Hid (val b32 P0+b32 ^ (o+0)*0=val b32 P0+b32 ^ o*val b32 (ys.take 0)):=by show _=_;simp[val]
 go_wp2
 go_loopw [10] (fun kv wi=>∃(k:Nat) (Q:List Nat) (cc:Nat),kv=.int .i64 k/\k<=ys.length/\Q.length=P0.length/\Dg b32 Q/\Hid (OutB o ys.length P0 Q)/\cc<=1/\Hid (val b32 Q+b32 ^ (o+k)*cc=val b32 P0+b32 ^ o*val b32 (ys.take k))/\AddSt w g sz g2 sz2 B cc Q ys wi)
  (fun kv _=>ys.length-(intOf kv).toNat)
 case atStart=>exact ⟨0,P0,0,rfl,Nat.zero_le _,rfl,hd,fun _ _=>rfl,by decide,h0,S0⟩
 case round =>
  obtain ⟨k,Q,cc,rfl,hk,hQl,hQd,HO,hcc,HV,hst⟩:=hrel
  by_cases hkl:k<ys.length
  .have ey:=hst.2.1.cell hkl;rw[<-getD_at hkl]at ey;have hu:=getD_dg (by decide) HDY.out k;have hik:o+k<Q.length:=by omega
   have ev:=hst.1.cell hik;rw[<-getD_at hik]at ev;have hv:=getD_dg (by decide) hQd (o+k);have HTY:=Hd (val_take_succ (b:=b32) ys k);obtain ⟨u,eu⟩:∃u,Hid (ys.getD k 0=u):=⟨_,rfl⟩
   obtain ⟨v,hvv⟩:∃v,Hid (Q.getD (o+k) 0=v):=⟨_,rfl⟩
   rw[eu.out]at ey hu HTY;rw[hvv.out]at ev hv;have hval:=back_step (u:=u) (by decide) hik hvv.out HV.out;rw[<-HTY.out]at hval;obtain ⟨d,ed⟩:∃d,(v+u+cc) % b32=d:=⟨_,rfl⟩
   obtain ⟨c',ec⟩:∃c',(v+u+cc) / b32=c':=⟨_,rfl⟩
   have hdd:d<b32:=by rw[<-ed];exact Nat.mod_lt _ (by decide)
   have hc':c'<=1:=by unfold b32 at ec hv hu;omega
   have ST2:=Hd (more_step v u cc B _ hv hu hcc hst.2.2.1 hst.2.2.2.1 hst.2.2.2.2.1 ed ec);rw[ed,ec]at hval;have s3:=hst.more hgB hgB2 hBw c';have s4:=s3.put hgB hne (o+k) d;have ev3:=s3.1.cell hik;rw[<-getD_at hik,hvv.out]at ev3;have fv3:=s3.1.frozen (o+k);have fv:=hst.1.frozen (o+k);have S4:=Hd s4;have HVL:=Hd hval;have hk2:(k:Int)<(ys.length:Int)+1:=by omega
   clear s3 s4 hval ed ec HV hst
   go_wp2_with fail
   refine ST2.out.mono ?_;rintro e w' ⟨rfl,rfl⟩;go_wp2
   go_roundw
   case rel=>exact ⟨k+1,Q.set (o+k) d,c',by simp,by omega,by rw[List.length_set];exact hQl,hQd.set _ hdd,HO.out.set (by omega) (by omega),hc',HVL,S4.out⟩
   case measure=>simp[intOf];omega
  .obtain rfl:k=ys.length:=by omega
   have hik:o+ys.length<Q.length:=by omega
   have ev:=hst.1.cell hik;rw[<-getD_at hik]at ev;have hv:=getD_dg (by decide) hQd (o+ys.length);obtain ⟨v,hvv⟩:∃v,Hid (Q.getD (o+ys.length) 0=v):=⟨_,rfl⟩
   rw[hvv.out]at ev hv;have hval:=back_step (u:=0) (by decide) hik hvv.out HV.out;rw[List.take_of_length_le (Nat.le_refl _),Nat.mul_zero,Nat.add_zero]at hval;obtain ⟨d,ed⟩:∃d,(v+0+cc) % b32=d:=⟨_,rfl⟩
   obtain ⟨c',ec⟩:∃c',(v+0+cc) / b32=c':=⟨_,rfl⟩
   have hdd:d<b32:=by rw[<-ed];exact Nat.mod_lt _ (by decide)
   have hc':c'<=1:=by unfold b32 at ec hv;omega
   have ST2:=Hd (more_step v 0 cc B _ hv (by decide) hcc hst.2.2.1 hst.2.2.2.1 hst.2.2.2.2.1 ed ec);rw[show v+cc=v+0+cc from rfl,ed,ec]at hval;have s3:=hst.more hgB hgB2 hBw c';have s4:=s3.put hgB hne (o+ys.length) d;have ev3:=s3.1.cell hik;rw[<-getD_at hik,hvv.out]at ev3;have fv3:=s3.1.frozen (o+ys.length);have fv:=hst.1.frozen (o+ys.length);have S4:=Hd s4;have HVL:=Hd hval;have hk2:(ys.length:Int)<(ys.length:Int)+1:=by omega
   clear s3 s4 hval ed ec HV hst
   go_wp2_with fail
   refine ST2.out.mono ?_;rintro e w' ⟨rfl,rfl⟩;go_wp2
   go_end0
   exact ⟨Q.set (o+ys.length) d,c',⟨_,rfl⟩,hc',by rw[List.length_set];exact hQl,hQd.set _ hdd,HO.out.set (by omega) (by omega),HVL.out,S4.out.1,S4.out.2.2.2.2.2⟩
end Go.Proofs.YtglhdielkkhefaaGreat

namespace Go.Proofs.YtglhdielkkhefaaGreat
open Go.RowKit Go.Shelf
def lzRen : Go.Shelf.Ren:=⟨fun|133=>182|128=>192|n=>n,fun|51=>89|3=>3|4=>4|46=>145|5=>5|9=>9|n=>n,fun|n=>n⟩
theorem lzLays : Go.Proofs.Lays.n133 Tryz.prog lzRen:={
 mixed:=by kernel_rfl
 f128:=Tryz.func192.trans (congrArg some (by kernel_rfl))
 f133:=Tryz.func182.trans (congrArg some (by kernel_rfl))
 t3:=Tryz.underlying3
 a3:=Tryz.isAgg3
 z3:=Tryz.sizeOf3
 v3:=Tryz.zeroValue3
 t4:=Tryz.underlying4
 a4:=Tryz.isAgg4
 z4:=Tryz.sizeOf4
 v4:=Tryz.zeroValue4
 t5:=Tryz.underlying5
 a5:=Tryz.isAgg5
 z5:=Tryz.sizeOf5
 v5:=Tryz.zeroValue5
 t9:=Tryz.underlying9
 a9:=Tryz.isAgg9
 z9:=Tryz.sizeOf9
 v9:=Tryz.zeroValue9
 t46:=Tryz.underlying145
 a46:=Tryz.isAgg145
 z46:=Tryz.sizeOf145
 v46:=Tryz.zeroValue145
 t51:=Tryz.underlying89
 a51:=Tryz.isAgg89
 z51:=Tryz.sizeOf89
 v51:=Tryz.zeroValue89 }
theorem bitLen_two (x:Nat):x<2 ^ 64->0<x->∃n,Lib.bitLen x=n+1/\2 ^ n<=x/\x<2 ^ (n+1):=by
 induction x using Nat.strongRecOn with
 | _ x ih =>
  intro h h0;rw[Lib.bitLen_half x (by omega) h]
  rcases Nat.lt_or_ge x 2 with h1|h1
  .obtain rfl:x=1:=by omega
   exact ⟨0,by decide +kernel,by decide,by decide⟩
  .obtain ⟨n,e,a,b⟩:=ih (x / 2) (by omega) (by omega) (by omega);refine ⟨n+1,by omega,?_,?_⟩
   .rw[Nat.pow_succ];omega
   .rw[Nat.pow_succ];omega
theorem lz_any (x:Nat)(hx:x<4294967296)(h0:0<x)(w:World) :
  Calls Tryz.prog 182 #[.int .u32 (x:Nat)] w fun e w'=>∃s:Nat,e=.returned (.int .i64 (s:Nat))/\s<32/\2147483648<=x*2 ^ s/\x*2 ^ s<4294967296/\w'=w:=by
 refine (Any.bits_LeadingZeros32 lzLays (x:Nat) w (by omega) (by omega)).mono ?_;rintro e w' ⟨rfl,rfl⟩;obtain ⟨n,e1,a,b⟩:=bitLen_two x (Nat.lt_trans hx (by decide)) h0
 have hn:n<32:=by
  rcases Nat.lt_or_ge n 32 with h|h
  .exact h
  .have:2 ^ 32<=2 ^ n:=Nat.pow_le_pow_right (by decide) h;have e2:2 ^ 32=4294967296:=by decide
   omega
 refine ⟨31-n,?_,by omega,?_,?_,rfl⟩
 .rw[show ((x:Nat):Int).toNat=x from rfl,e1]
  congr 2
  omega
 .have h1:=Nat.mul_le_mul_right (2 ^ (31-n)) a;rw[<-Nat.pow_add,show n+(31-n)=31 from by omega]at h1;exact h1
 .have h1:=Nat.mul_lt_mul_of_pos_right b (Nat.pow_pos (n:=31-n) (show 0<2 by decide));rw[<-Nat.pow_add,show n+1+(31-n)=32 from by omega]at h1;exact h1
end Go.Proofs.YtglhdielkkhefaaGreat
