/- Parts: 8. -/
import Derived.Test.YtglhdielkkhefaaGreatMl5
import Derived.Test.YtglhdielkkhefaaGreatMl12
import Derived.Test.YtglhdielkkhefaaGreatMl15
import Derived.Test.YtglhdielkkhefaaGreatMl16
import Derived.Test.YtglhdielkkhefaaGreatMl18
import Derived.Test.YtglhdielkkhefaaGreatRows
import Derived.Below
import Derived.ChangeOld
import Derived.Deep.Slices
import Derived.Lib.SmallJoins
import Derived.OpenShut
import Derived.ProofKit
import Derived.ShutString
import Derived.WalkKit
set_option linter.unusedVariables false
set_option linter.unusedSimpArgs false
set_option maxRecDepth 100000
set_option maxHeartbeats 40000000

namespace Go.Proofs.YtglhdielkkhefaaGreat
open Go.RowKit Go.Shelf
def intsV (ns:List Int):Array Value:=(ns.map (fun n=>Value.int .i64 n)).toArray
theorem rn_lit {W:World}{g:Nat}{ns:List Int}{t:TypeId}(h:Hp W g (.cells (intsV ns) t (0,0))):Rn W (some ⟨g,0,none⟩) ns:=fun k hk=>⟨g,0,rfl,by
 rw[Nat.zero_add,h.cellAt k]
 simp[intsV,hk]⟩
def mR (l:List (List Int))(k:Nat):List Rat:=ratsOf (l.getD k [])
def i64s (l:List (List Int)):Bool:=l.all fun r=>decide (r.length<=100)&&r.all fun n=>decide (-9223372036854775808<=n)&&decide (n<=9223372036854775807)
theorem i64s_row {l:List (List Int)}(h:i64s l=true)(k:Nat):(l.getD k []).length<=100/\∀n∈l.getD k [],-9223372036854775808<=n/\n<=9223372036854775807:=by
 by_cases hk:k<l.length
 .have h1:=(List.all_eq_true.1 h) _ (List.getElem_mem hk);rw[show l.getD k []=l[k] from by simp[List.getD,hk]];simp only[Bool.and_eq_true,decide_eq_true_eq,List.all_eq_true]at h1;exact ⟨h1.1,fun n hn=>h1.2 n hn⟩
 .rw[show l.getD k []=[] from by simp[List.getD,Nat.le_of_not_lt hk]];exact ⟨by decide,fun n hn=>by cases hn⟩
theorem mlit_any {w W:World}{g:Nat}{l:List (List Int)}{cs:Array Value}(hb:Below w.heap.size w W)(hg:Hp W g (.cells cs 60 (0,0)))(hr:∀k,k<l.length->∃A c,cs[k]?=some (.slice A (l.getD k []).length c)/\Rn W A (l.getD k []))(hl:l.length<=100)(h64:i64s l=true){n:Nat}(hn:l.length=n) :
  Calls Tryz.prog 42 #[.slice (some ⟨g,0,none⟩) n n] W (MR w n (mR l)):=by
 subst hn
 have h:=rints4_m (w:=W) (P:=some ⟨g,0,none⟩) (N:=l.length) (C:=l.length) (ns:=fun k=>l.getD k []) ⟨fun k hk=>by
  obtain ⟨A,c,h1,h2⟩:=hr k hk
  exact ⟨g,0,A,c,rfl,hg.lt,by rw[Nat.zero_add,hg.cellAt k];exact h1,h2⟩,fun k _=>(i64s_row h64 k).2,fun k _=>by have:=(i64s_row h64 k).1;omega⟩ (by omega)
 refine h.mono ?_;rintro e V ⟨P,C,rfl,hm,bb⟩;exact ⟨P,C,rfl,hm,Bxb hb bb⟩
theorem mlit1 {w:World}(a:List Int)(h:i64s [a]=true) :
  Calls Tryz.prog 42 #[.slice (some ⟨w.heap.size+1,0,none⟩) 1 1] ((w.alloc (.cells (intsV a) 2)).alloc (.cells #[.slice (some ⟨w.heap.size,0,none⟩) a.length a.length] 60)) (MR w 1 (mR [a])):=by
 have h1:=(Hp.new w (intsV a) 2).alloc (.cells #[.slice (some ⟨w.heap.size,0,none⟩) a.length a.length] 60);have h2:=Hp.new (w.alloc (.cells (intsV a) 2)) #[.slice (some ⟨w.heap.size,0,none⟩) a.length a.length] 60;rw[szA]at h2
 exact mlit_any (bRR.alloc (by simp) _) h2 (fun k hk=>by
  obtain rfl:k=0:=by simp at hk;omega
  exact ⟨_,_,rfl,rn_lit h1⟩) (by simp) h rfl
theorem mlit2 {w:World}(a b:List Int)(h:i64s [a,b]=true) :
  Calls Tryz.prog 42 #[.slice (some ⟨w.heap.size+1+1,0,none⟩) 2 2] (((w.alloc (.cells (intsV a) 2)).alloc (.cells (intsV b) 2)).alloc (.cells #[.slice (some ⟨w.heap.size,0,none⟩) a.length a.length,.slice (some ⟨w.heap.size+1,0,none⟩) b.length b.length] 60)) (MR w 2 (mR [a,b])):=by
 have h1:=((Hp.new w (intsV a) 2).alloc (.cells (intsV b) 2)).alloc (.cells #[.slice (some ⟨w.heap.size,0,none⟩) a.length a.length,.slice (some ⟨w.heap.size+1,0,none⟩) b.length b.length] 60);have h2:=(Hp.new (w.alloc (.cells (intsV a) 2)) (intsV b) 2).alloc (.cells #[.slice (some ⟨w.heap.size,0,none⟩) a.length a.length,.slice (some ⟨w.heap.size+1,0,none⟩) b.length b.length] 60);have h3:=Hp.new ((w.alloc (.cells (intsV a) 2)).alloc (.cells (intsV b) 2)) #[.slice (some ⟨w.heap.size,0,none⟩) a.length a.length,.slice (some ⟨w.heap.size+1,0,none⟩) b.length b.length] 60;rw[szA]at h2;rw[szA,szA]at h3
 exact mlit_any ((bRR.alloc (by simp) _).alloc (by simp;omega) _) h3 (fun k hk=>by
  match k,hk with
  | 0,_=>exact ⟨_,_,rfl,rn_lit h1⟩
  | 1,_=>exact ⟨_,_,rfl,rn_lit h2⟩) (by simp) h rfl
theorem rlit {w:World}(a:List Int)(h:i64s [a]=true){n:Nat}(hn:a.length=n) :
  Calls Tryz.prog 50 #[.slice (some ⟨w.heap.size,0,none⟩) n n] (w.alloc (.cells (intsV a) 2)) fun e w'=>∃A c es,e=.returned (.slice A n c)/\Vc w' A c es (ratsOf a)/\Below w.heap.size w w':=by
 subst hn;have hb:Below w.heap.size w (w.alloc (.cells (intsV a) 2)):=bRR;have h0:=i64s_row h 0;refine (rints_v (c:=a.length) (rn_lit (Hp.new w (intsV a) 2)) h0.2 (by have:=h0.1;simp at this;omega)).mono ?_;rintro e V ⟨A,c,es,rfl,hv,bb⟩;exact ⟨A,c,es,by rw[ratsOf_length],hv,Bxb hb bb⟩
theorem plit {w:World}(a:List Int)(h:i64s [a]=true){n:Nat}(hn:a.length=n) :
  Calls Tryz.prog 49 #[.slice (some ⟨w.heap.size,0,none⟩) n n] (w.alloc (.cells (intsV a) 2)) fun e w'=>∃A c es,e=.returned (.slice A n c)/\Vc w' A c es (ratsOf a)/\Below w.heap.size w w':=by
 subst hn;have hb:Below w.heap.size w (w.alloc (.cells (intsV a) 2)):=bRR;have h0:=i64s_row h 0;refine (ints_v (c:=a.length) (rn_lit (Hp.new w (intsV a) 2)) h0.2 (by have:=h0.1;simp at this;omega)).mono ?_;rintro e V ⟨A,c,es,rfl,hv,bb⟩;exact ⟨A,c,es,by rw[ratsOf_length],hv,Bxb hb bb⟩
theorem small_m {w:World} : Calls Tryz.prog 48 #[] w (MR w 2 (mR [[1,2],[3]])):=by
 go_enter Tryz.func48,Tryz.ntmps48
 go_wp2_with fail
 refine (mlit2 [1,2] [3] (by decide +kernel)).mono ?_;rintro e V ⟨P,C,rfl,hm,bb⟩;have HB:=Hd bb;clear bb;go_wp2
 go_ret
 exact ⟨P,C,rfl,hm,HB.out⟩
theorem malive_any (w:World):Calls Tryz.prog 11 #[] w fun e w'=>e=.returned (.bool true)/\Below w.heap.size w w':=by
 have MQ:∀k,k<2->∀i,Qm 2 ((mR [[1,2],[3]] k).getD i 0):=fun k hk i=>rats_qm (by match k,hk with
  | 0,_=>decide +kernel
  | 1,_=>decide +kernel) i
 have ML:∀k,k<2->(mR [[1,2],[3]] k).length<=2:=fun k hk=>by match k,hk with
  | 0,_=>decide +kernel
  | 1,_=>decide +kernel
 have hc:colsN (mR [[1,2],[3]]) 2=2:=by decide +kernel
 have HMI:=Hd (fun (V:World) (P:Option Addr) (C:Nat) (h:Mc V P 2 C (mR [[1,2],[3]]))=>h.mi (m:=2) (by decide) MQ);have HCO:=Hd (fun (V:World) (P:Option Addr) (C:Nat) (h:Mc V P 2 C (mR [[1,2],[3]]))=>cols_m (C:=C) h.rs (by decide) (fun k hk=>Nat.le_trans (ML k hk) (by decide)))
 have HMV:=Hd (fun (V:World) (P A:Option Addr) (C c:Nat) (es:List E4) (h:Mc V P 2 C (mR [[1,2],[3]])) (hv:Vc V A c es (ratsOf [5,7]))=>mulVec_m (c':=c) (HMI.out _ _ _ h) (hv.vi (fun i=>rats_qm (by decide +kernel) i) (by decide)) (by decide) (by decide) (by decide) (fun k hk=>Nat.le_trans (ML k hk) (by decide)) (by decide) (fun k hk=>by match k,hk with
  | 0,_=>decide +kernel
  | 1,_=>decide +kernel))
 have HVM:=Hd (fun (V:World) (P A:Option Addr) (C c:Nat) (es:List E4) (h:Mc V P 2 C (mR [[1,2],[3]])) (hv:Vc V A c es (ratsOf [1,1]))=>vecMul_m (c':=c) (C:=C) (hv.vi (fun i=>rats_qm (by decide +kernel) i) (by decide)) (HMI.out _ _ _ h) (by decide) (by decide) (fun k hk=>Nat.le_trans (ML k hk) (by decide)) (by decide) (by decide) (by decide));have HTU:=Hd (fun (V:World) (P:Option Addr) (C:Nat) (h:Mc V P 2 C (mR [[1,2],[3]]))=>turn_m (HMI.out _ _ _ h) (by decide) (by decide) (fun k hk=>Nat.le_trans (Nat.succ_le_succ (ML k hk)) (by decide)))
 have HMU:=Hd (fun (V:World) (P:Option Addr) (C:Nat) (h:Mc V P 2 C (mR [[1,2],[3]]))=>mul_m (HMI.out _ _ _ h) (HMI.out _ _ _ h) (by decide) (by decide) (by decide) (by decide) (fun k hk=>Nat.le_trans (ML k hk) (by decide)) (fun k hk=>Nat.le_trans (ML k hk) (by decide)) (fun k hk=>by match k,hk with
  | 0,_=>decide +kernel
  | 1,_=>decide +kernel))
 have HCA:=Hd (fun (V:World) (P Q:Option Addr) (C D:Nat) (h:Mc V P 2 C (mR [[1,2],[3]])) (h9:Mc V Q 1 D (mR [[9]]))=>cat_m (HMI.out _ _ _ h) (h9.mi (m:=2) (by decide) (fun k hk i=>rats_qm (by match k,hk with
  | 0,_=>decide +kernel) i)) (by decide) (by decide) (by decide) (fun k hk=>Nat.le_trans (ML k hk) (by decide)) (fun k hk=>by match k,hk with
  | 0,_=>decide +kernel))
 simp only[hc]at HCO HTU HVM HMU HCA;simp only[show max 2 1=2 from rfl]at HCA;have HB:=Hd (Below.refl w.heap.size w);clear MQ ML hc HMI
 go_enter Tryz.func11,Tryz.ntmps11
 go_wp2_with fail
 refine (small_m).mono ?_;rintro e V ⟨_,_,rfl,hm,bb⟩;replace HB:=Hxb HB bb;clear bb
 go_wp2_with fail
 refine (HCO.out _ _ _ hm).mono ?_;rintro e V ⟨rfl,bb⟩;replace hm:=hm.to bb;replace HB:=Hxb HB bb;clear bb
 go_wp2_with fail
 refine (plit [5,7] (by decide +kernel) rfl).mono ?_;rintro e V ⟨_,_,_,rfl,r,bb⟩;replace hm:=hm.to bb;replace HB:=Hxb HB bb;clear bb
 go_wp2_with fail
 refine (HMV.out _ _ _ _ _ _ hm r).mono ?_;rintro e V ⟨_,_,_,rfl,s,bb⟩;clear r;replace hm:=hm.to bb;replace HB:=Hxb HB bb;clear bb
 go_wp2_with fail
 refine (rlit [19,15] (by decide +kernel) rfl).mono ?_;rintro e V ⟨_,_,_,rfl,r,bb⟩;replace hm:=hm.to bb;replace s:=s.to bb;replace HB:=Hxb HB bb;clear bb
 go_wp2_with fail
 refine (vis_v s r (by decide +kernel) (v:=true) (by decide +kernel)).mono ?_;rintro e V ⟨rfl,bb⟩;clear s r;replace hm:=hm.to bb;replace HB:=Hxb HB bb;clear bb
 go_wp2_with fail
 refine (plit [1,1] (by decide +kernel) rfl).mono ?_;rintro e V ⟨_,_,_,rfl,r,bb⟩;replace hm:=hm.to bb;replace HB:=Hxb HB bb;clear bb
 go_wp2_with fail
 refine (HVM.out _ _ _ _ _ _ hm r).mono ?_;rintro e V ⟨_,_,_,rfl,s,bb⟩;clear r;replace hm:=hm.to bb;replace HB:=Hxb HB bb;clear bb
 go_wp2_with fail
 refine (rlit [4,2] (by decide +kernel) rfl).mono ?_;rintro e V ⟨_,_,_,rfl,r,bb⟩;replace hm:=hm.to bb;replace s:=s.to bb;replace HB:=Hxb HB bb;clear bb
 go_wp2_with fail
 refine (vis_v s r (by decide +kernel) (v:=true) (by decide +kernel)).mono ?_;rintro e V ⟨rfl,bb⟩;clear s r;replace hm:=hm.to bb;replace HB:=Hxb HB bb;clear bb
 go_wp2_with fail
 refine (HTU.out _ _ _ hm).mono ?_;rintro e V ⟨_,_,rfl,s,bb⟩;replace hm:=hm.to bb;replace HB:=Hxb HB bb;clear bb
 go_wp2_with fail
 refine (mlit2 [1,3] [2,0] (by decide +kernel)).mono ?_;rintro e V ⟨_,_,rfl,r,bb⟩;replace hm:=hm.to bb;replace s:=s.to bb;replace HB:=Hxb HB bb;clear bb
 go_wp2_with fail
 refine (is4_t s r (fun k hk=>by match k,hk with
  | 0,_=>decide +kernel
  | 1,_=>decide +kernel) (fun k hk=>by match k,hk with
  | 0,_=>decide +kernel
  | 1,_=>decide +kernel)).mono ?_
 rintro e V ⟨rfl,bb⟩;clear s r;replace hm:=hm.to bb;replace HB:=Hxb HB bb;clear bb
 go_wp2_with fail
 refine (HMU.out _ _ _ hm).mono ?_;rintro e V ⟨_,_,rfl,s,bb⟩;replace hm:=hm.to bb;replace HB:=Hxb HB bb;clear bb
 go_wp2_with fail
 refine (mlit2 [7,2] [3,6] (by decide +kernel)).mono ?_;rintro e V ⟨_,_,rfl,r,bb⟩;replace hm:=hm.to bb;replace s:=s.to bb;replace HB:=Hxb HB bb;clear bb
 go_wp2_with fail
 refine (is4_t s r (fun k hk=>by match k,hk with
  | 0,_=>decide +kernel
  | 1,_=>decide +kernel) (fun k hk=>by match k,hk with
  | 0,_=>decide +kernel
  | 1,_=>decide +kernel)).mono ?_
 rintro e V ⟨rfl,bb⟩;clear s r;replace hm:=hm.to bb;replace HB:=Hxb HB bb;clear bb
 go_wp2_with fail
 refine (mlit1 [9] (by decide +kernel)).mono ?_;rintro e V ⟨_,_,rfl,h9,bb⟩;replace hm:=hm.to bb;replace HB:=Hxb HB bb;clear bb
 go_wp2_with fail
 refine (HCA.out _ _ _ _ _ hm h9).mono ?_;rintro e V ⟨_,_,rfl,s,bb⟩;clear h9;replace hm:=hm.to bb;replace HB:=Hxb HB bb;clear bb
 go_wp2_with fail
 refine (mlit2 [1,2,9] [3,0,0] (by decide +kernel)).mono ?_;rintro e V ⟨_,_,rfl,r,bb⟩;replace hm:=hm.to bb;replace s:=s.to bb;replace HB:=Hxb HB bb;clear bb
 go_wp2_with fail
 refine (is4_t s r (fun k hk=>by match k,hk with
  | 0,_=>decide +kernel
  | 1,_=>decide +kernel) (fun k hk=>by match k,hk with
  | 0,_=>decide +kernel
  | 1,_=>decide +kernel)).mono ?_
 rintro e V ⟨rfl,bb⟩;clear s r;replace hm:=hm.to bb;replace HB:=Hxb HB bb;clear bb;go_wp2
 go_ret
 exact ⟨rfl,HB.out⟩
theorem mlim_rows {w:World}{P:Option Addr}{N C:Nat}{n:Int}(h1:(10:Int)<(N:Int)) :
  Calls Tryz.prog 5 #[.slice P N C,.int .i64 n] w fun e w'=>e=.returned (.bool true)/\Below w.heap.size w w':=by
 go_enter Tryz.func5,Tryz.ntmps5
 go_wp2_with fail
 refine (malive_any _).mono ?_;rintro e V ⟨rfl,bb⟩;have HB:=Hd bb;clear bb;go_wp2
 go_ret
 exact ⟨rfl,HB.out⟩
theorem mlim_n {w:World}{P:Option Addr}{N C:Nat}{n:Int}(h1:¬(10:Int)<(N:Int))(h2:n<1020) :
  Calls Tryz.prog 5 #[.slice P N C,.int .i64 n] w fun e w'=>e=.returned (.bool true)/\Below w.heap.size w w':=by
 go_enter Tryz.func5,Tryz.ntmps5
 go_wp2_with fail
 refine (malive_any _).mono ?_;rintro e V ⟨rfl,bb⟩;have HB:=Hd bb;clear bb;go_wp2
 go_ret
 exact ⟨rfl,HB.out⟩
theorem mlim_core {w:World}{P:Option Addr}{N C:Nat}{n:Int}{ns:Nat->List Int}(h1:¬(10:Int)<(N:Int))(h2:¬n<1020)(hI:ImL w P N ns) :
  Calls Tryz.prog 5 #[.slice P N C,.int .i64 n] w fun e w'=>e=.returned (.bool true)/\Below w.heap.size w w':=by
 have HI:=Hd (rints4L_m (C:=C) hI (by omega));have HN:=Hd h1;have hlen:∀k,k<N->(ratsOf (ns k)).length<=2000000:=fun k hk=>by rw[ratsOf_length];have:=hI.le k hk;omega
 obtain ⟨R,hR⟩:∃R:Nat,min n 1024=(R:Int):=⟨(min n 1024).toNat,by omega⟩
 have hR1:min (max n 0) 1024=(R:Int):=by omega
 have HR:=Hd hR;have HR1:=Hd hR1;have HR2:Hid (R<=1024):=by show R<=1024;omega
 have HII:=Hd hI;obtain ⟨rs,hrs⟩:∃rs:Nat->List Rat,rs=fun i=>ratsOf (ns i):=⟨_,rfl⟩
 have hrk:∀k,ratsOf (ns k)=rs k:=fun k=>by rw[hrs]
 simp only[hrk]at hlen;rw[<-hrs]at HI;have HRS:=Hd hrs;have HLEN:=Hd hlen;obtain ⟨c,hc⟩:∃c,colsN rs N=c:=⟨_,rfl⟩
 have HC:=Hd hc;clear hI hlen hR hR1 hrs hrk hc
 go_enter Tryz.func5,Tryz.ntmps5
 go_wp2_with fail
 refine HI.out.mono ?_;rintro e V1 ⟨P1,C1,rfl,r1,bb⟩;have hcc:=rcols_m (C:=C1) r1.rs (by have:=HN.out;omega) (fun k hk=>by have:=HLEN.out k hk;omega);rw[HC.out]at hcc;have HCC:=Hd hcc;have HB:=Hd bb;clear bb hcc r1 HI
 go_wp2_with fail
 refine HCC.out.mono ?_;rintro e V2 ⟨rfl,bb⟩;replace HB:=Hxb HB bb;clear bb;clear HCC
 by_cases hc10:(10:Int)<(c:Int)
 .go_wp2_with fail
  refine (malive_any _).mono ?_;rintro e V ⟨rfl,bb⟩;replace HB:=Hxb HB bb;clear bb;go_wp2
  go_ret
  exact ⟨rfl,HB.out⟩
 have HL10:Hid (∀k,k<N->(rs k).length<=10):=fun k hk=>by have h:=colsN_ge rs hk;rw[HC.out]at h;omega
 have hf:=fromInts_m (C:=C) (HII.out.to HB.out) (by have:=HN.out;omega);rw[<-HRS.out]at hf;have HF:=Hd hf;clear hf
 go_wp2_with fail
 refine HF.out.mono ?_;rintro e V3 ⟨P3,C3,rfl,r3,bb⟩;replace HB:=Hxb HB bb;clear bb
 have hmi:Mi V3 P3 N C3 rs 2:=r3.mi (by decide) (fun k hk i=>by
  have h:=HRS.out;rw[h]
  exact rats_qm (List.all_eq_true.2 fun x hx=>decide_eq_true (by have:=HII.out.bd k hk x hx;omega)) i)
 have HMI:=Hd hmi;have R3:=Hd r3;clear HF hmi r3
 go_wp2_with fail
 refine (resize_m (L:=1) HMI.out (by decide) (fun k hk=>by have:=HL10.out k hk;omega) HR1.out (by decide)).mono ?_;rintro e V4 ⟨P4,C4,rfl,r4,bb⟩;replace HMI:=Hd (HMI.out.to bb);replace R3:=Hd (R3.out.to bb);replace HB:=Hxb HB bb;clear bb;clear r4
 go_wp2_with fail
 refine (resize_m (R:=1) HMI.out (by decide) (fun k hk=>by have:=HL10.out k hk;omega) (by decide) HR1.out).mono ?_;rintro e V5 ⟨P5,C5,rfl,r5,bb⟩;replace R3:=Hd (R3.out.to bb);replace HB:=Hxb HB bb;clear bb;obtain ⟨b,o,A,c5,es,e5,hb5,hc5,_⟩:=r5.row 0 (by decide);subst e5;rw[fitQ_length,show min ((R:Int)).toNat 65536=R by have:=HR2.out;omega]at hc5;have F5:Hid (∀V,Below V5.heap.size V5 V->V.cell? ⟨b,o,none⟩=some (.slice A R c5)):=fun V hV=>(hV.cell (p:=⟨b,_,none⟩) hb5).trans hc5
 have HI2:=Hd (rints4L_m (C:=C) (HII.out.to HB.out) (by have:=HN.out;omega));rw[<-HRS.out]at HI2;clear r5 HMI hb5 hc5
 go_wp2_with fail
 refine HI2.out.mono ?_;rintro e V6 ⟨P6,C6,rfl,r6,bb⟩;have hx:=bb;have HIS:=Hd (is4_t (R3.out.to bb) r6 (fun _ _=>rfl) (fun k hk=>by have:=HL10.out k hk;omega));replace HB:=Hxb HB bb;clear bb;have HX:=Hd hx;clear HI2 r6 hx
 go_wp2_with fail
 refine HIS.out.mono ?_;rintro e V7 ⟨rfl,bb⟩;have q:=F5.out V7 (HX.out.trans (bb.mono HX.out.size));have hmin:=HR.out;replace HB:=Hxb HB bb;clear bb;clear HIS R3
 go_wp2_with fail
 refine (malive_any _).mono ?_;rintro e V ⟨rfl,bb⟩;replace HB:=Hxb HB bb;clear bb;go_wp2
 go_ret
 exact ⟨rfl,HB.out⟩
theorem mlim_any {w:World}{P:Option Addr}{N C:Nat}{n:Int}{ns:Nat->List Int}(hI:N<=10->ImL w P N ns) :
  Calls Tryz.prog 5 #[.slice P N C,.int .i64 n] w fun e w'=>e=.returned (.bool true)/\Below w.heap.size w w':=by
 by_cases h1:(10:Int)<(N:Int)
 .exact mlim_rows h1
 .by_cases h2:n<1020
  .exact mlim_n h1 h2
  .exact mlim_core h1 h2 (hI (by omega))
end Go.Proofs.YtglhdielkkhefaaGreat

namespace Go.Proofs.YtglhdielkkhefaaGreat
open Go.ChangeShapes Go.WideShapes Go.ChangeAt Go.RowKit Go.Joins
theorem laidOut : laidOutB Tryz.prog=true:=by kernel_rfl
theorem own : ownKnob Tryz.prog.godebug=none:=by kernel_rfl
def Zx2 (W:World)(x y:Value):Prop:=∃n A c xs,x=.bool n/\y=.slice A xs.length c/\Rd .u32 W W.heap.size A xs/\Dg b32 xs/\xs.length<=c/\c<=9223372036854775807
end Go.Proofs.YtglhdielkkhefaaGreat

namespace Go.Proofs.YtglhdielkkhefaaGreat
open Go.RowKit Go.Shelf
def ZxE (W:World)(e:E4):Prop:=Zx2 W e.a e.b/\Zx2 W e.c e.d
def vlen : Value->Nat
 | .slice _ n _=>n
 | _=>0
def lngE (e:E4):Bool:=decide (6<vlen e.b)||decide (6<vlen e.d)
def lngV (es:List E4):Bool:=decide (20<es.length)||es.any lngE
structure VA where
 A:Option Addr
 c:Nat
 es:List E4
structure VIn (W:World)(v:VA):Prop where
 row:Rq W W.heap.size v.A v.es
 el:∀e∈v.es,ZxE W e
 cap:v.es.length<=v.c
 c63:v.c<=9223372036854775807
end Go.Proofs.YtglhdielkkhefaaGreat

namespace Go.Proofs.YtglhdielkkhefaaGreat
open Go.ChangeShapes Go.WideShapes Go.ChangeAt Go.RowKit Go.Joins
instance : Inhabited E4:=⟨E4.z⟩
theorem spot_none {W:World}{a:Addr}{v:Value}(h:W.cell? a=some v):a.spot=none:=by
 unfold World.cell? at h
 split at h
 .split at h
  .cases h
  .rename_i hs
   simpa using hs
 .cases h
theorem cellsI : Tryz.prog.cellsOf 2=1:=by kernel_rfl
theorem bulk_one {H:Type}(d:DataW H):1<=Rows.uptoBulk d:=by
 cases d with
 | lit l=>cases l<;>simp[Rows.uptoBulk]
 | nil=>simp[Rows.uptoBulk]
 | ptr d=>simp[Rows.uptoBulk]
 | slice elems spare=>simp[Rows.uptoBulk]
 | agg parts=>simp[Rows.uptoBulk]
 | iface t d=>simp[Rows.uptoBulk]
 | map entries=>simp[Rows.uptoBulk]
 | held h=>simp[Rows.uptoBulk]
theorem bulk_part {H:Type}{d:DataW H}{l:List (DataW H)}(h:d∈l):Rows.uptoBulk d<=Rows.uptoBulkAll l:=by
 induction l with
 | nil=>cases h
 | cons x r ih =>
  simp only[Rows.uptoBulkAll]
  cases List.mem_cons.1 h with
  | inl e=>subst e;omega
  | inr e=>have:=ih e;omega
theorem bulk_len {H:Type}(l:List (DataW H)):l.length<=Rows.uptoBulkAll l:=by
 induction l with
 | nil=>simp[Rows.uptoBulkAll]
 | cons x r ih=>have:=bulk_one x;simp only[Rows.uptoBulkAll,List.length_cons];omega
structure LA where
 A:Option Addr
 c:Nat
 ns:List Int
theorem open_lt {H:Type}{enc:TypeId×Value->H}{W:World}{base:Nat}{spare:Nat->Bool}{held:Bool}{v:Value}{fuel:Nat}{x:DataW H×List MemPlace}
  (hs:∀b,spare b=true) (hf:DataW.trod enc Tryz.prog W base spare held fuel 60 [v]=some x) :
  ∃u:LA,v=.slice u.A u.ns.length u.c/\Rn W u.A u.ns/\(∀n∈u.ns,-9223372036854775808<=n/\n<=9223372036854775807)/\u.ns.length+1<=Rows.uptoBulk x.1:=by
 rcases open_ints Tryz.underlying60 Tryz.underlying2 cellsI hf with ⟨e1,_⟩|⟨y,l,c,zs,e1,_,hl,hm,hz,hx,hcell,hwz⟩
 .simp only[List.cons.injEq,and_true]at e1;subst e1;exact ⟨⟨none,0,[]⟩,rfl,(fun k hk=>absurd hk (Nat.not_lt_zero _)),(fun n hn=>(by cases hn)),bulk_one _⟩
 .simp only[List.cons.injEq,and_true]at e1;subst e1;rw[hs,if_pos rfl]at hz;have hlen:(zs.take l).length=l:=by rw[List.length_take];omega
  refine ⟨⟨some y,c,zs.take l⟩,by rw[hlen],?_,fun n hn=>bounds_i64 (hwz n (List.mem_of_mem_take hn)),?_⟩
  .intro k hk;rw[hlen]at hk;obtain ⟨b,off,rfl,hc⟩:=Go.ints_at hcell (by omega);have hck:=hc k (by omega);refine ⟨b,off,rfl,?_⟩;rw[hck];simp[List.getD,show k<zs.length by omega]
  .rw[hx];simp only[Rows.uptoBulk];have h1:=bulk_len (H:=H) (lits .i64 (zs.take l));have h2:(lits (H:=H) .i64 (zs.take l)).length=(zs.take l).length:=by simp[lits]
   omega
theorem cellsL : Tryz.prog.cellsOf 60=1:=by kernel_rfl
theorem open_ll {H:Type}{enc:TypeId×Value->H}{W:World}{base:Nat}{spare:Nat->Bool}{held:Bool}{r:Reach}{b0:Nat}{v:Value}{d:DataW H}{p:List MemPlace}
  (hs:∀b,spare b=true) (hv:Value.okWide Tryz.prog W r b0 47 v) (h:DataW.Trod enc Tryz.prog W base spare held 47 v d p) :
  ∃(P:Option Addr) (n C:Nat) (vs:Nat->LA),v=.slice P n C/\n<=9223372036854775807/\(∀i,i<n->∃b o,P=some ⟨b,o,none⟩/\b<W.heap.size/\W.cell? ⟨b,o+i,none⟩=some (.slice (vs i).A (vs i).ns.length (vs i).c))/\∀i,i<n->Rn W (vs i).A (vs i).ns/\(∀n∈(vs i).ns,-9223372036854775808<=n/\n<=9223372036854775807)/\(vs i).ns.length+1<=Rows.uptoBulk d:=by
 obtain ⟨a,len,cap,rfl⟩:=okWide_slice Tryz.underlying47 hv;obtain ⟨fuel,hf⟩:=h;replace hf:DataW.trod enc Tryz.prog W base spare held fuel 47 [.slice a len cap]=some (d,p):=hf
 rcases Go.Deep.open_slice1 Tryz.underlying47 cellsL hf with ⟨e1,_⟩|⟨ad,l,cp,m,n,V,D,Pl,e1,hb,hl,hm,hmm,hd,hx⟩
 .simp only[List.cons.injEq,Value.slice.injEq,and_true]at e1;obtain ⟨rfl,rfl,rfl⟩:=e1;exact ⟨none,0,0,fun _=>⟨none,0,[]⟩,rfl,by decide,fun i hi=>absurd hi (Nat.not_lt_zero _),fun i hi=>absurd hi (Nat.not_lt_zero _)⟩
 .simp only[List.cons.injEq,Value.slice.injEq,and_true]at e1;obtain ⟨rfl,rfl,rfl⟩:=e1;have hlm:len<=m:=by rw[hmm];split<;>omega
  have hd1:d=.slice ((List.range len).map D) ((List.range (m-len)).map fun j=>D (len+j)):=(Prod.mk.inj hd).1
  have hbulk:∀i,i<len->Rows.uptoBulk (D i)<=Rows.uptoBulk d:=fun i hi=>by
   rw[hd1];simp only[Rows.uptoBulk];have h1:=bulk_part (d:=D i) (l:=(List.range len).map D) (List.mem_map.2 ⟨i,List.mem_range.2 hi,rfl⟩);omega
  have each:∀i,i<len->∃u:LA,V i=.slice u.A u.ns.length u.c/\Rn W u.A u.ns/\(∀n∈u.ns,-9223372036854775808<=n/\n<=9223372036854775807)/\u.ns.length+1<=Rows.uptoBulk d:=fun i hi=>by
   obtain ⟨u,h1,h2,h3,h4⟩:=open_lt hs (hx i (by omega)).2;exact ⟨u,h1,h2,h3,Nat.le_trans h4 (hbulk i hi)⟩
  haveI:Inhabited LA:=⟨⟨none,0,[]⟩⟩
  obtain ⟨vs,hvs⟩:=Go.Deep.choose_lt each;refine ⟨some ad,len,cap,vs,rfl,by have:=hm;unfold maxLen at this;omega,fun i hi=>?_,fun i hi=>(hvs i hi).2⟩;have hc:=(hx i (by omega)).1;have h0:=(hx 0 (by omega)).1;obtain ⟨b,o,sp⟩:=ad;have h00:(⟨b,o,sp⟩:Addr).add 0=⟨b,o,sp⟩:=by simp[Addr.add]
  rw[h00]at h0;have hsp:=spot_none h0;dsimp only at hsp;subst hsp
  have hadd:(⟨b,o,none⟩:Addr).add i=⟨b,o+i,none⟩:=by
   unfold Addr.add
   by_cases hj:i=0
   .simp[hj]
   .simp[hj]
  rw[hadd,(hvs i hi).1]at hc;exact ⟨b,o,rfl,World.block_lt_of_cell? W _ hc,hc⟩
end Go.Proofs.YtglhdielkkhefaaGreat
