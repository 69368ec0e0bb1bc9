/- Parts: 1. -/
import Derived.Test.YtglhdielkkhefaaGreatMr18
import Derived.Test.YtglhdielkkhefaaGreatMr20
set_option linter.unusedVariables false
set_option linter.unusedSimpArgs false
set_option maxRecDepth 100000
set_option maxHeartbeats 40000000

namespace Go.Proofs.YtglhdielkkhefaaGreat
open Go.RowKit Go.Shelf
def intsV (ns:List Int):Array Value:=(ns.map (fun n=>Value.int .i64 n)).toArray
theorem rn_lit {W:World}{g:Nat}{ns:List Int}{t:TypeId}(h:Hp W g (.cells (intsV ns) t (0,0))):Rn W (some ⟨g,0,none⟩) ns:=fun k hk=>⟨g,0,rfl,by
 rw[Nat.zero_add,h.cellAt k]
 simp[intsV,hk]⟩
def mR (l:List (List Int))(k:Nat):List Rat:=ratsOf (l.getD k [])
def i64s (l:List (List Int)):Bool:=l.all fun r=>decide (r.length<=100)&&r.all fun n=>decide (-9223372036854775808<=n)&&decide (n<=9223372036854775807)
theorem i64s_row {l:List (List Int)}(h:i64s l=true)(k:Nat):(l.getD k []).length<=100/\∀n∈l.getD k [],-9223372036854775808<=n/\n<=9223372036854775807:=by
 by_cases hk:k<l.length
 .have h1:=(List.all_eq_true.1 h) _ (List.getElem_mem hk)
  rw[show l.getD k []=l[k] from by simp[List.getD,hk]]
  simp only[Bool.and_eq_true,decide_eq_true_eq,List.all_eq_true]at h1
  exact ⟨h1.1,fun n hn=>h1.2 n hn⟩
 .rw[show l.getD k []=[] from by simp[List.getD,Nat.le_of_not_lt hk]]
  exact ⟨by decide,fun n hn=>by cases hn⟩
theorem mlit_any {w W:World}{g:Nat}{l:List (List Int)}{cs:Array Value}(hb:Below w.heap.size w W)(hg:Hp W g (.cells cs 60 (0,0)))(hr:∀k,k<l.length->∃A c,cs[k]?=some (.slice A (l.getD k []).length c)/\Rn W A (l.getD k []))(hl:l.length<=100)(h64:i64s l=true){n:Nat}(hn:l.length=n) :
  Calls Tryz.prog 42 #[.slice (some ⟨g,0,none⟩) n n] W (MR w n (mR l)):=by
 subst hn
 have h:=rints4_m (w:=W) (P:=some ⟨g,0,none⟩) (N:=l.length) (C:=l.length) (ns:=fun k=>l.getD k []) ⟨fun k hk=>by
  obtain ⟨A,c,h1,h2⟩:=hr k hk
  exact ⟨g,0,A,c,rfl,hg.lt,by rw[Nat.zero_add,hg.cellAt k];exact h1,h2⟩,fun k _=>(i64s_row h64 k).2,fun k _=>by have:=(i64s_row h64 k).1;omega⟩ (by omega)
 refine h.mono ?_
 rintro e V ⟨P,C,rfl,hm,bb⟩
 exact ⟨P,C,rfl,hm,Bxb hb bb⟩
theorem mlit1 {w:World}(a:List Int)(h:i64s [a]=true) :
  Calls Tryz.prog 42 #[.slice (some ⟨w.heap.size+1,0,none⟩) 1 1] ((w.alloc (.cells (intsV a) 2)).alloc (.cells #[.slice (some ⟨w.heap.size,0,none⟩) a.length a.length] 60)) (MR w 1 (mR [a])):=by
 have h1:=(Hp.new w (intsV a) 2).alloc (.cells #[.slice (some ⟨w.heap.size,0,none⟩) a.length a.length] 60)
 have h2:=Hp.new (w.alloc (.cells (intsV a) 2)) #[.slice (some ⟨w.heap.size,0,none⟩) a.length a.length] 60
 rw[World.size_alloc]at h2
 exact mlit_any (((Below.refl _ _).alloc (Nat.le_refl _) _).alloc (by simp) _) h2 (fun k hk=>by
  obtain rfl:k=0:=by simp at hk;omega
  exact ⟨_,_,rfl,rn_lit h1⟩) (by simp) h rfl
theorem mlit2 {w:World}(a b:List Int)(h:i64s [a,b]=true) :
  Calls Tryz.prog 42 #[.slice (some ⟨w.heap.size+1+1,0,none⟩) 2 2] (((w.alloc (.cells (intsV a) 2)).alloc (.cells (intsV b) 2)).alloc (.cells #[.slice (some ⟨w.heap.size,0,none⟩) a.length a.length,.slice (some ⟨w.heap.size+1,0,none⟩) b.length b.length] 60)) (MR w 2 (mR [a,b])):=by
 have h1:=((Hp.new w (intsV a) 2).alloc (.cells (intsV b) 2)).alloc (.cells #[.slice (some ⟨w.heap.size,0,none⟩) a.length a.length,.slice (some ⟨w.heap.size+1,0,none⟩) b.length b.length] 60)
 have h2:=(Hp.new (w.alloc (.cells (intsV a) 2)) (intsV b) 2).alloc (.cells #[.slice (some ⟨w.heap.size,0,none⟩) a.length a.length,.slice (some ⟨w.heap.size+1,0,none⟩) b.length b.length] 60)
 have h3:=Hp.new ((w.alloc (.cells (intsV a) 2)).alloc (.cells (intsV b) 2)) #[.slice (some ⟨w.heap.size,0,none⟩) a.length a.length,.slice (some ⟨w.heap.size+1,0,none⟩) b.length b.length] 60
 rw[World.size_alloc]at h2
 rw[World.size_alloc,World.size_alloc]at h3
 exact mlit_any ((((Below.refl _ _).alloc (Nat.le_refl _) _).alloc (by simp) _).alloc (by simp;omega) _) h3 (fun k hk=>by
  match k,hk with
  | 0,_=>exact ⟨_,_,rfl,rn_lit h1⟩
  | 1,_=>exact ⟨_,_,rfl,rn_lit h2⟩) (by simp) h rfl
theorem rlit {w:World}(a:List Int)(h:i64s [a]=true){n:Nat}(hn:a.length=n) :
  Calls Tryz.prog 50 #[.slice (some ⟨w.heap.size,0,none⟩) n n] (w.alloc (.cells (intsV a) 2)) fun e w'=>∃A c es,e=.returned (.slice A n c)/\Vc w' A c es (ratsOf a)/\Below w.heap.size w w':=by
 subst hn
 have hb:Below w.heap.size w (w.alloc (.cells (intsV a) 2)):=(Below.refl _ _).alloc (Nat.le_refl _) _
 have h0:=i64s_row h 0
 refine (rints_v (c:=a.length) (rn_lit (Hp.new w (intsV a) 2)) h0.2 (by have:=h0.1;simp at this;omega)).mono ?_
 rintro e V ⟨A,c,es,rfl,hv,bb⟩
 exact ⟨A,c,es,by rw[ratsOf_length],hv,Bxb hb bb⟩
theorem plit {w:World}(a:List Int)(h:i64s [a]=true){n:Nat}(hn:a.length=n) :
  Calls Tryz.prog 49 #[.slice (some ⟨w.heap.size,0,none⟩) n n] (w.alloc (.cells (intsV a) 2)) fun e w'=>∃A c es,e=.returned (.slice A n c)/\Vc w' A c es (ratsOf a)/\Below w.heap.size w w':=by
 subst hn
 have hb:Below w.heap.size w (w.alloc (.cells (intsV a) 2)):=(Below.refl _ _).alloc (Nat.le_refl _) _
 have h0:=i64s_row h 0
 refine (ints_v (c:=a.length) (rn_lit (Hp.new w (intsV a) 2)) h0.2 (by have:=h0.1;simp at this;omega)).mono ?_
 rintro e V ⟨A,c,es,rfl,hv,bb⟩
 exact ⟨A,c,es,by rw[ratsOf_length],hv,Bxb hb bb⟩
theorem small_m {w:World} : Calls Tryz.prog 48 #[] w (MR w 2 (mR [[1,2],[3]])):=by
 go_enter Tryz.func48,Tryz.ntmps48
 go_wp2_with fail
 refine (mlit2 [1,2] [3] (by decide +kernel)).mono ?_
 rintro e V ⟨P,C,rfl,hm,bb⟩
 have HB:=Hd bb
 clear bb
 go_wp2
 go_ret
 exact ⟨P,C,rfl,hm,HB.out⟩
theorem malive_any (w:World):Calls Tryz.prog 11 #[] w fun e w'=>e=.returned (.bool true)/\Below w.heap.size w w':=by
 have MQ:∀k,k<2->∀i,Qm 2 ((mR [[1,2],[3]] k).getD i 0):=fun k hk i=>rats_qm (by match k,hk with
  | 0,_=>decide +kernel
  | 1,_=>decide +kernel) i
 have ML:∀k,k<2->(mR [[1,2],[3]] k).length<=2:=fun k hk=>by match k,hk with
  | 0,_=>decide +kernel
  | 1,_=>decide +kernel
 have hc:colsN (mR [[1,2],[3]]) 2=2:=by decide +kernel
 have HMI:=Hd (fun (V:World) (P:Option Addr) (C:Nat) (h:Mc V P 2 C (mR [[1,2],[3]]))=>h.mi (m:=2) (by decide) MQ)
 have HCO:=Hd (fun (V:World) (P:Option Addr) (C:Nat) (h:Mc V P 2 C (mR [[1,2],[3]]))=>cols_m (C:=C) h.rs (by decide) (fun k hk=>Nat.le_trans (ML k hk) (by decide)))
 have HMV:=Hd (fun (V:World) (P A:Option Addr) (C c:Nat) (es:List E4) (h:Mc V P 2 C (mR [[1,2],[3]])) (hv:Vc V A c es (ratsOf [5,7]))=>mulVec_m (c':=c) (HMI.out _ _ _ h) (hv.vi (fun i=>rats_qm (by decide +kernel) i) (by decide)) (by decide) (by decide) (by decide) (fun k hk=>Nat.le_trans (ML k hk) (by decide)) (by decide) (fun k hk=>by match k,hk with
  | 0,_=>decide +kernel
  | 1,_=>decide +kernel))
 have HVM:=Hd (fun (V:World) (P A:Option Addr) (C c:Nat) (es:List E4) (h:Mc V P 2 C (mR [[1,2],[3]])) (hv:Vc V A c es (ratsOf [1,1]))=>vecMul_m (c':=c) (C:=C) (hv.vi (fun i=>rats_qm (by decide +kernel) i) (by decide)) (HMI.out _ _ _ h) (by decide) (by decide) (fun k hk=>Nat.le_trans (ML k hk) (by decide)) (by decide) (by decide) (by decide))
 have HTU:=Hd (fun (V:World) (P:Option Addr) (C:Nat) (h:Mc V P 2 C (mR [[1,2],[3]]))=>turn_m (HMI.out _ _ _ h) (by decide) (by decide) (fun k hk=>Nat.le_trans (Nat.succ_le_succ (ML k hk)) (by decide)))
 have HMU:=Hd (fun (V:World) (P:Option Addr) (C:Nat) (h:Mc V P 2 C (mR [[1,2],[3]]))=>mul_m (HMI.out _ _ _ h) (HMI.out _ _ _ h) (by decide) (by decide) (by decide) (by decide) (fun k hk=>Nat.le_trans (ML k hk) (by decide)) (fun k hk=>Nat.le_trans (ML k hk) (by decide)) (fun k hk=>by match k,hk with
  | 0,_=>decide +kernel
  | 1,_=>decide +kernel))
 have HCA:=Hd (fun (V:World) (P Q:Option Addr) (C D:Nat) (h:Mc V P 2 C (mR [[1,2],[3]])) (h9:Mc V Q 1 D (mR [[9]]))=>cat_m (HMI.out _ _ _ h) (h9.mi (m:=2) (by decide) (fun k hk i=>rats_qm (by match k,hk with
  | 0,_=>decide +kernel) i)) (by decide) (by decide) (by decide) (fun k hk=>Nat.le_trans (ML k hk) (by decide)) (fun k hk=>by match k,hk with
  | 0,_=>decide +kernel))
 simp only[hc]at HCO HTU HVM HMU HCA
 simp only[show max 2 1=2 from rfl]at HCA
 have HB:=Hd (Below.refl w.heap.size w)
 clear MQ ML hc HMI
 go_enter Tryz.func11,Tryz.ntmps11
 go_wp2_with fail
 refine (small_m).mono ?_
 rintro e V ⟨_,_,rfl,hm,bb⟩
 replace HB:=Hxb HB bb
 clear bb
 go_wp2_with fail
 refine (HCO.out _ _ _ hm).mono ?_
 rintro e V ⟨rfl,bb⟩
 replace hm:=hm.to bb
 replace HB:=Hxb HB bb
 clear bb
 go_wp2_with fail
 refine (plit [5,7] (by decide +kernel) rfl).mono ?_
 rintro e V ⟨_,_,_,rfl,r,bb⟩
 replace hm:=hm.to bb
 replace HB:=Hxb HB bb
 clear bb
 go_wp2_with fail
 refine (HMV.out _ _ _ _ _ _ hm r).mono ?_
 rintro e V ⟨_,_,_,rfl,s,bb⟩
 clear r
 replace hm:=hm.to bb
 replace HB:=Hxb HB bb
 clear bb
 go_wp2_with fail
 refine (rlit [19,15] (by decide +kernel) rfl).mono ?_
 rintro e V ⟨_,_,_,rfl,r,bb⟩
 replace hm:=hm.to bb
 replace s:=s.to bb
 replace HB:=Hxb HB bb
 clear bb
 go_wp2_with fail
 refine (vis_v s r (by decide +kernel) (v:=true) (by decide +kernel)).mono ?_
 rintro e V ⟨rfl,bb⟩
 clear s r
 replace hm:=hm.to bb
 replace HB:=Hxb HB bb
 clear bb
 go_wp2_with fail
 refine (plit [1,1] (by decide +kernel) rfl).mono ?_
 rintro e V ⟨_,_,_,rfl,r,bb⟩
 replace hm:=hm.to bb
 replace HB:=Hxb HB bb
 clear bb
 go_wp2_with fail
 refine (HVM.out _ _ _ _ _ _ hm r).mono ?_
 rintro e V ⟨_,_,_,rfl,s,bb⟩
 clear r
 replace hm:=hm.to bb
 replace HB:=Hxb HB bb
 clear bb
 go_wp2_with fail
 refine (rlit [4,2] (by decide +kernel) rfl).mono ?_
 rintro e V ⟨_,_,_,rfl,r,bb⟩
 replace hm:=hm.to bb
 replace s:=s.to bb
 replace HB:=Hxb HB bb
 clear bb
 go_wp2_with fail
 refine (vis_v s r (by decide +kernel) (v:=true) (by decide +kernel)).mono ?_
 rintro e V ⟨rfl,bb⟩
 clear s r
 replace hm:=hm.to bb
 replace HB:=Hxb HB bb
 clear bb
 go_wp2_with fail
 refine (HTU.out _ _ _ hm).mono ?_
 rintro e V ⟨_,_,rfl,s,bb⟩
 replace hm:=hm.to bb
 replace HB:=Hxb HB bb
 clear bb
 go_wp2_with fail
 refine (mlit2 [1,3] [2,0] (by decide +kernel)).mono ?_
 rintro e V ⟨_,_,rfl,r,bb⟩
 replace hm:=hm.to bb
 replace s:=s.to bb
 replace HB:=Hxb HB bb
 clear bb
 go_wp2_with fail
 refine (is4_t s r (fun k hk=>by match k,hk with
  | 0,_=>decide +kernel
  | 1,_=>decide +kernel) (fun k hk=>by match k,hk with
  | 0,_=>decide +kernel
  | 1,_=>decide +kernel)).mono ?_
 rintro e V ⟨rfl,bb⟩
 clear s r
 replace hm:=hm.to bb
 replace HB:=Hxb HB bb
 clear bb
 go_wp2_with fail
 refine (HMU.out _ _ _ hm).mono ?_
 rintro e V ⟨_,_,rfl,s,bb⟩
 replace hm:=hm.to bb
 replace HB:=Hxb HB bb
 clear bb
 go_wp2_with fail
 refine (mlit2 [7,2] [3,6] (by decide +kernel)).mono ?_
 rintro e V ⟨_,_,rfl,r,bb⟩
 replace hm:=hm.to bb
 replace s:=s.to bb
 replace HB:=Hxb HB bb
 clear bb
 go_wp2_with fail
 refine (is4_t s r (fun k hk=>by match k,hk with
  | 0,_=>decide +kernel
  | 1,_=>decide +kernel) (fun k hk=>by match k,hk with
  | 0,_=>decide +kernel
  | 1,_=>decide +kernel)).mono ?_
 rintro e V ⟨rfl,bb⟩
 clear s r
 replace hm:=hm.to bb
 replace HB:=Hxb HB bb
 clear bb
 go_wp2_with fail
 refine (mlit1 [9] (by decide +kernel)).mono ?_
 rintro e V ⟨_,_,rfl,h9,bb⟩
 replace hm:=hm.to bb
 replace HB:=Hxb HB bb
 clear bb
 go_wp2_with fail
 refine (HCA.out _ _ _ _ _ hm h9).mono ?_
 rintro e V ⟨_,_,rfl,s,bb⟩
 clear h9
 replace hm:=hm.to bb
 replace HB:=Hxb HB bb
 clear bb
 go_wp2_with fail
 refine (mlit2 [1,2,9] [3,0,0] (by decide +kernel)).mono ?_
 rintro e V ⟨_,_,rfl,r,bb⟩
 replace hm:=hm.to bb
 replace s:=s.to bb
 replace HB:=Hxb HB bb
 clear bb
 go_wp2_with fail
 refine (is4_t s r (fun k hk=>by match k,hk with
  | 0,_=>decide +kernel
  | 1,_=>decide +kernel) (fun k hk=>by match k,hk with
  | 0,_=>decide +kernel
  | 1,_=>decide +kernel)).mono ?_
 rintro e V ⟨rfl,bb⟩
 clear s r
 replace hm:=hm.to bb
 replace HB:=Hxb HB bb
 clear bb
 go_wp2
 go_ret
 exact ⟨rfl,HB.out⟩
end Go.Proofs.YtglhdielkkhefaaGreat
