/- Parts: 3. -/
import Derived.Test.YtiifpobhmnplaaaGreatVs4
import Derived.Test.YtiifpobhmnplaaaGreatVs6
import Derived.Test.YtiifpobhmnplaaaGreatVs8
import Derived.Laws.IdiomStrings
set_option linter.unusedVariables false
set_option linter.unusedSimpArgs false
set_option maxRecDepth 100000
set_option maxHeartbeats 40000000

namespace Go.Proofs.YtiifpobhmnplaaaGreat
open Go.RowKit Go.Shelf
theorem infoByte : (Tryz.prog.info? 5).map (fun i=>(i.zero,i.size,i.bytes))=some (some (.int .u8 0),1,1):=by kernel_rfl
def decB (neg:Bool)(m:Nat):List Nat:=if m=0 then [48] else (revB neg (dig 10 m)).reverse
def decS (neg:Bool)(m:Nat):ByteArray:=⟨((decB neg m).map UInt8.ofNat).toArray⟩
theorem Buf.of_own {kd:IntKind}{w:World}{base:Nat}{e:TypeId}{g n cap:Nat}{xs:List Nat}(hn:xs.length=n)(h:w.ownsRow base e 1 (.slice (some ⟨g,0,none⟩) n cap) n (ints kd xs)):Buf kd e g cap xs w/\base<=g/\n<=cap/\cap<=9223372036854775807:=by
 rcases h.2 with ⟨e,_⟩|⟨g',cap',cur,e,hb,hg,h1,h2,h3,h4⟩
 .cases e
 .injection e with e1 e2 e3
  injection e1 with e1
  injection e1 with e1
  subst e1 e3 hn
  exact ⟨⟨cur,hg,by omega,by rw[<-h4,Nat.mul_one]⟩,hb,h1,by simpa [maxLen]using h2⟩
theorem Buf.own {kd:IntKind}{ty:TypeId}{g sz:Nat}{xs:List Nat}{w:World}(h:Buf kd ty g sz xs w){base:Nat}(hb:base<=g)(hs:sz<=9223372036854775807):w.ownsRow base ty 1 (.slice (some ⟨g,0,none⟩) xs.length sz) xs.length (ints kd xs):=by
 have hl:=h.le
 obtain ⟨cur,h1,h2,h3⟩:=h
 exact ⟨by simp[ints],.inr ⟨g,sz,cur,rfl,hb,h1,hl,by simpa [maxLen]using hs,by omega,by rw[Nat.mul_one];exact h3⟩⟩
theorem Buf.take {kd:IntKind}{ty:TypeId}{g sz:Nat}{xs:List Nat}{w:World}(h:Buf kd ty g sz xs w)(n:Nat):Buf kd ty g sz (xs.take n) w:=by
 obtain ⟨cur,h1,h2,h3⟩:=h
 refine ⟨cur,h1,h2,?_⟩
 have h4:=congrArg (List.take n) h3
 rw[List.take_take]at h4
 rw[List.length_take,h4]
 simp[ints,List.map_take]
theorem Buf.not_row {kd:IntKind}{ty e:TypeId}{g sz:Nat}{xs:List Nat}{w:World}(h:Buf kd ty g sz xs w)(hte:ty≠e){base size n:Nat}{v:Value}{ys:List Value}(hr:w.ownsRow base e size v n ys):some g≠v.ownBlock:=by
 obtain ⟨cur,h1,_⟩:=h
 rcases hr.2 with ⟨rfl,_⟩|⟨g',cap,cur',rfl,_,hgb,_⟩
 .simp[Value.ownBlock]
 .intro e'
  obtain rfl:g=g':=by simpa [Value.ownBlock]using e'
  have:=h1.symm.trans hgb
  simp at this
  exact hte this.2
theorem pow_bound {a n V:Nat}(h1:10 ^ a<=V)(h2:V<b32 ^ n):a<10*n:=by
 have h3:b32 ^ n<=(10 ^ 10) ^ n:=Nat.pow_le_pow_left (by decide) n
 rw[<-Nat.pow_mul]at h3
 exact (Nat.pow_lt_pow_iff_right (by decide)).1 (Nat.lt_of_le_of_lt h1 (Nat.lt_of_lt_of_le h2 h3))
def tx (V n:Nat):List Nat:=(low V n).map (48+·)
theorem tx_length (V n:Nat):(tx V n).length=n:=by simp[tx,low_length]
theorem tx_succ (V n:Nat):tx V (n+1)=tx V n++[48+V / 10 ^ n % 10]:=by simp[tx,low]
def lenV : Value->Nat
 | .slice _ n _=>n
 | _=>0
theorem conv_any {g sz cap:Nat}{ys:List Nat}{w:World}(h:Buf .u8 5 g sz ys w)(hy:Dg 256 ys) :
  (convert 90 9 (.slice (some ⟨g,0,none⟩) ys.length cap)).run Tryz.prog w=.ok (.string ⟨(ys.map UInt8.ofNat).toArray⟩) w:=by
 have h1:=run_convert_bytes_back (P:=Tryz.prog) w 90 9 5 ⟨g,0,none⟩ cap (ys.map UInt8.ofNat) Tryz.underlying90 Tryz.underlying5 Tryz.underlying9 (by
  intro j hj
  have hj2:j<ys.length:=by simpa using hj
  have h2:=h.cell hj2
  have h3:ys[j]<256:=hy.at_ hj2
  have h4:(⟨g,0,none⟩:Addr).add j=⟨g,j,none⟩:=by cases j<;>simp[Addr.add]
  rw[h4,h2]
  simp
  omega)
 simpa using h1
theorem Dg.append {b:Nat}{xs ys:List Nat}(h:Dg b xs)(k:Dg b ys):Dg b (xs++ys):=fun d hd=>(List.mem_append.1 hd).elim (h d) (k d)
theorem tx_dg (V n:Nat):Dg 256 (tx V n):=by
 intro d hd
 obtain ⟨e,he,rfl⟩:=List.mem_map.1 hd
 have:=low_dg V n e he
 omega
theorem tx_at (V:Nat){n j:Nat}(h:j<n):(tx V n).getD j 0=48+V / 10 ^ j % 10:=by
 have h1:(tx V n).take (j+1)=tx V (j+1):=by
  unfold tx
  rw[<-List.map_take,low_take V (by omega)]
 have h2:((tx V n).take (j+1)).getD j 0=(tx V n).getD j 0:=by simp[List.getD]
 rw[<-h2,h1,tx_succ,List.getD,List.getElem?_append_right (by rw[tx_length];omega),tx_length,Nat.sub_self]
 rfl
theorem tx_dec {V j:Nat}(neg:Bool)(h:V<10 ^ (j+1))(h2:V / 10 ^ j≠0)(hV:V≠0):(tx V (j+1)++(if neg then [45] else [])).reverse=decB neg V:=by
 have h3:10 ^ j<=V:=Nat.le_of_not_lt fun h=>h2 (Nat.div_eq_of_lt h)
 unfold decB revB
 rw[if_neg hV,<-low_dig h (by simpa using h3) (by omega)]
 rfl
theorem div_step (V k:Nat):V / 10 ^ (9*k) / 1000000000=V / 10 ^ (9*(k+1)):=by
 rw[Nat.mul_add,Nat.pow_add,<-Nat.div_div_eq_div_mul]
theorem digit_at (V k i:Nat)(h:i<9):V / 10 ^ (9*k) % 1000000000 / 10 ^ i % 10=V / 10 ^ (9*k+i) % 10:=by
 have h1:=low_shift V (9*k) i
 rwa [if_pos h]at h1
theorem format_zero (neg:Bool){A:Option Addr}{c:Nat}{xs:List Nat}{w:World}(hx:Arg w A c xs)(h0:val b32 xs=0) :
  Calls Tryz.prog 69 #[.agg #[.bool neg,.slice A xs.length c]] w fun e w'=>e=.returned (.string (decS neg (val b32 xs)))/\Below w.heap.size w w':=by
 have hx1:=hx.to ((Below.refl w.heap.size w).alloc (Nat.le_refl _) (.cells #[.bool neg,.slice A xs.length c] 24))
 have ht:trimL xs=[]:=by rw[trimL_dig b32_one hx.dg,h0];rfl
 have HS:Hid (decS neg (val b32 xs)=⟨#[48]⟩):=by show _=_;rw[h0];rfl
 have HT:=Hd (trim_q hx1)
 have HC:=Hd (clone_any c hx1.trim.rd (by rw[ht];simp))
 rw[ht]at HT HC
 have hb1:=Hd ((Below.refl w.heap.size w).alloc (Nat.le_refl _) (.cells #[.bool neg,.slice A xs.length c] 24))
 clear hx1 hx h0 ht
 go_enter Tryz.func69,Tryz.ntmps69
 go_wp2_with fail
 refine HT.out.mono ?_
 rintro e w' ⟨rfl,rfl⟩
 go_wp2_with fail
 refine HC.out.mono ?_
 rintro e w2 ⟨v,rfl,hown,hb2⟩
 obtain ⟨A2,c2,rfl⟩:=own_shape hown
 have HB:=Hxb hb1 hb2
 clear hown hb2
 go_wp2
 go_ret
 exact ⟨by rw[HS.out];rfl,HB.out⟩
theorem format_pos (neg:Bool){A:Option Addr}{c:Nat}{xs:List Nat}{w:World}(hx:Arg w A c xs)(h0:val b32 xs≠0) :
  Calls Tryz.prog 69 #[.agg #[.bool neg,.slice A xs.length c]] w fun e w'=>e=.returned (.string (decS neg (val b32 xs)))/\Below w.heap.size w w':=by
 obtain ⟨i0,hi',hz0,hz1,hz2⟩:=info_parts infoByte
 have hx1:=hx.to ((Below.refl w.heap.size w).alloc (Nat.le_refl _) (.cells #[.bool neg,.slice A xs.length c] 24))
 have tZ:=Zat.new w (.bool neg) (.slice A xs.length c)
 have hsm:=hx1.trim.small
 have ht:trimL xs=dig b32 (val b32 xs):=trimL_dig b32_one hx.dg
 have HT:=Hd (trim_q hx1)
 have HC:=Hd (clone_any c hx1.trim.rd (by omega))
 rw[ht]at HT HC hsm
 obtain ⟨V,eV⟩:∃V,val b32 xs=V:=⟨_,rfl⟩
 rw[eV]at h0 hsm HT HC ⊢
 obtain ⟨n,hn⟩:∃n,(dig b32 V).length=n:=⟨_,rfl⟩
 have hn0:0<n:=by rw[<-hn,List.length_pos_iff];exact fun h=>h0 ((dig_nil b32_one).1 h)
 have hVn:V<b32 ^ n:=by
  have h:=val_lt (Dg_dig b32_one V)
  rwa [val_dig b32_one,hn]at h
 rw[hn]at hsm HT
 have HN:=Hd hn
 have hb1:=(Below.refl w.heap.size w).alloc (Nat.le_refl _) (.cells #[.bool neg,.slice A xs.length c] 24)
 have HB1:=Hd hb1
 have TZ:=Hd tZ
 clear hx1 hx ht eV hn hb1 tZ
 go_enter Tryz.func69,Tryz.ntmps69
 go_wp2_with fail
 refine HT.out.mono ?_
 rintro e w' ⟨rfl,rfl⟩
 go_wp2_with fail
 rw[<-HN.out]
 refine HC.out.mono ?_
 rintro e w2 ⟨v,rfl,hown,hb2⟩
 rw[HN.out]at hown
 obtain ⟨m,rfl⟩:∃m,n=m+1:=⟨n-1,by omega⟩
 obtain ⟨g,cap,rfl⟩:=ownsRow_succ hown
 obtain ⟨hbuf,hg1,hg2,hg3⟩:=Buf.of_own HN.out hown
 have tZ2:Zat w2 w.heap.size (.bool neg) (.slice A xs.length c):=(hb2.block w.heap.size (by simp)).trans TZ.out
 have hbw:Below w.heap.size w w2:=HB1.out.trans (hb2.mono (by simp))
 have hs2:=hbw.size
 have hq:(((m+1:Nat):Int)==0)=false:=by rw[beq_eq_false_iff_ne];omega
 have hgw:w.heap.size+1<=g:=by simpa using hg1
 clear hown hb2 HT HC HB1 TZ hg1
 go_wp2_with (at_make;refine wpList_make_own _ rfl _ _ 90 rfl w.heap.size 5 i0 (.int .u8 0) 1 Tryz.underlying90 hi' hz0 hz1 .i64 .i64 _ (10*(m+1)+9+1) rfl rfl (by omega) (by rw[hz2];omega) (by unfold maxLen;omega) hs2 ?_;intro w4 hown4 hgrow4)
 have tZ4:=tZ2.kept hgrow4 (by simp)
 have hbuf4:=hbuf.kept hgrow4 (by simp)
 have hb4:Below w.heap.size w w4:=hbw.grown hgrow4 hs2 (fun k e=>by cases e)
 clear hgrow4 tZ2 hbuf hbw hs2 hq
 go_loopw [3,4] (fun rv tv wr=>∃(k:Nat) (tA:Option Addr) (tc:Nat),rv=.slice (some ⟨g,0,none⟩) (dig b32 (V / 10 ^ (9*k))).length cap/\tv=.slice tA (9*k) tc/\(V / 10 ^ (9*k)=0->0<k)/\(1<k->9*k<=10*(m+1)+9)/\Buf .u32 82 g cap (dig b32 (V / 10 ^ (9*k))) wr/\wr.ownsRow w.heap.size 5 1 (.slice tA (9*k) tc) (9*k) (ints .u8 (tx V (9*k)))/\Zat wr w.heap.size (.bool neg) (.slice A xs.length c)/\Below w.heap.size w wr)
  (fun _ tv _=>10*(m+1)+18-lenV tv)
 case atStart=>exact ⟨0,some ⟨w2.heap.size,0,none⟩,10*(m+1)+9+1,by simp[HN.out],by rfl,by simp[h0],by omega,by simpa using hbuf4,by simpa [tx,low,ints]using hown4,tZ4,hb4⟩
 case round =>
  obtain ⟨k,tA,tc,rfl,rfl,hk0,hkp,hbf,hot,tZ5,hb5⟩:=hrel
  by_cases hz:V / 10 ^ (9*k)=0
  .have hk1:=hk0 hz
   have hVk:V<10 ^ (9*k):=Nat.lt_of_not_le fun h=>absurd (Nat.div_pos h (Nat.pow_pos (by decide))) (by omega)
   have hz2:(dig b32 (V / 10 ^ (9*k))).length=0:=by rw[hz];rfl
   rw[hz2]
   have hkb:9*k<=10*(m+1)+9:=by
    by_cases h1:k=1
    .omega
    .have h2:=hkp (by omega)
     omega
   obtain ⟨N,hN⟩:∃N,9*k=N+1:=⟨9*k-1,by omega⟩
   rw[hN]at hot hVk hkb ⊢
   obtain ⟨g2,c2,e2⟩:=ownsRow_succ hot
   injection e2 with e3 _ e4
   subst e3 e4
   obtain ⟨hbt,hg4,hg5,hg6⟩:=Buf.of_own (tx_length V (N+1)) hot
   have HBT:=Hd hbt
   have HV:=Hd hVk
   have hs5:=hb5.size
   have HB5:=Hd hb5
   have TZ5:=Hd tZ5
   clear hbf hot hbt hVk hb5 tZ5 hz hz2 hk0 hN
   go_wp2
   go_loop [4] (fun tv=>∃j,tv=.slice (some ⟨g2,0,none⟩) (j+1) tc/\j<=N/\Hid (V<10 ^ (j+1))) (fun tv=>lenV tv)
   case atStart=>exact ⟨N,rfl,Nat.le_refl _,HV⟩
   case round =>
    obtain ⟨j,rfl,hjN,hVj⟩:=hrel
    have hc:=HBT.out.cell (j:=j) (by rw[tx_length];omega)
    have hdl:V / 10 ^ j<10:=by rw[Nat.div_lt_iff_lt_mul (Nat.pow_pos (by decide)),Nat.mul_comm];exact hVj.out
    rw[<-getD_at,tx_at V (by omega),Nat.mod_eq_of_lt hdl]at hc
    obtain ⟨d,ed⟩:∃d,Hid (V / 10 ^ j=d):=⟨_,rfl⟩
    rw[ed.out]at hdl hc
    by_cases hd0:d=0
    .subst hd0
     have hj1:0<j:=by
      rcases Nat.eq_zero_or_pos j with h|h
      .have h2:=ed.out
       rw[h,Nat.pow_zero,Nat.div_one]at h2
       exact absurd h2 h0
      .exact h
     obtain ⟨i,rfl⟩:∃i,j=i+1:=⟨j-1,by omega⟩
     have HVI:Hid (V<10 ^ (i+1)):=Nat.lt_of_not_le fun h=>absurd (Nat.div_pos h (Nat.pow_pos (by decide))) (by have:=ed.out;omega)
     go_wp2
     go_round
     case rel=>exact ⟨i,by simp,by omega,HVI⟩
     case measure=>simp[lenV]
    .have hE:((48+(d:Int))==48)=false:=by rw[beq_eq_false_iff_ne];omega
     have hE2:¬(48+(d:Int))=48:=by omega
     have hbj:=HBT.out.take (j+1)
     have e5:(tx V (N+1)).take (j+1)=tx V (j+1):=by unfold tx;rw[<-List.map_take,low_take V (by omega)]
     rw[e5]at hbj
     have HDEC:=fun neg=>tx_dec neg hVj.out (by rw[ed.out];exact hd0) h0
     have HDECH:=Hd HDEC
     have cN:=TZ5.out.two.c0
     have hlj:(tx V (j+1)).length=j+1:=tx_length V (j+1)
     have hlr:(tx V (j+1)).reverse.length=j+1:=by rw[List.length_reverse];exact hlj
     have hjc:j+1<=tc:=by omega
     have HBJ:=Hd hbj
     clear HDEC e5 hbj hd0
     cases neg with
     | false =>
      have HR:=reverse_any g2 tc tc (tx V (j+1)) wr HBJ.out (by rw[hlj];exact hjc) hg6
      rw[hlj]at HR
      have HRH:=Hd HR
      have HLR:=Hd hlr
      clear HR hlj hlr
      go_wp2_with fail
      refine HRH.out.mono ?_
      rintro e w8 ⟨⟨v8,rfl⟩,hb8,hg8⟩
      have hcv:=conv_any (cap:=tc) hb8 (fun e he=>tx_dg V (j+1) e (List.mem_reverse.1 he))
      rw[HLR.out]at hcv
      have HRES:Hid (.string ⟨((tx V (j+1)).reverse.map UInt8.ofNat).toArray⟩=Value.string (decS false V)):=by
       have h:=HDECH.out false
       simp only[Bool.false_eq_true,if_false,List.append_nil]at h
       show _=_
       rw[h];rfl
      have HBEL:=Hd (HB5.out.trans (Grown.below hg8 hg4 hs5))
      rw[HRES.out]at hcv
      clear hb8 hg8
      go_wp2
      go_ret
      exact ⟨rfl,HBEL.out⟩
     | true =>
      have hot2:=(Buf.own HBJ.out hg4 hg6).alloc (.cells #[.int .u8 45] 5)
      rw[hlj]at hot2
      have HBA:=Hd (HB5.out.alloc hs5 (.cells #[.int .u8 45] 5))
      have hlt:(Value.slice (some ⟨g2,0,none⟩) (j+1) tc).ownBlock=some g2:=rfl
      clear hlr
      go_wp2_with (at_builtin;revert hot2)
      intro hot2
      (refine wpList_append_own _ rfl (.tmp 52) (.tmp 53) 90 rfl w.heap.size 5 i0 (.int .u8 0) 1 1 Tryz.underlying90 hi' hz0 hz1 hz2 rfl (by decide) (.slice (some ⟨g2,0,none⟩) (j+1) tc) (j+1) _ rfl hot2 ⟨wr.heap.size,0,none⟩ 1 1 [.int .u8 45] rfl rfl ?c2 (by simp[Value.oneCell']) (by unfold maxLen;omega) (by omega) (by simp;omega) ?_)
      case c2 =>
       intro j' u' hj
       match j',hj with
       | 0,hj =>
        simp at hj
        subst hj
        simp[Addr.add]
      .intro v' w1 hown' hgrow _
       obtain ⟨g3,c3,rfl⟩:=ownsRow_succ hown'
       have hl3:(tx V (j+1)++[45]).length=j+1+1:=by rw[List.length_append,hlj];rfl
       obtain ⟨hb3,hg7,hg8,hg9⟩:=Buf.of_own (kd:=.u8) (xs:=tx V (j+1)++[45]) hl3 (by simpa [ints]using hown')
       have hbel3:=HBA.out.grown hgrow (by simp;omega) (fun j e=>by rw[hlt]at e;cases e;exact hg4)
       have HR:=reverse_any g3 c3 c3 (tx V (j+1)++[45]) w1 hb3 (by rw[hl3];exact hg8) hg9
       rw[hl3]at HR
       have HRH:=Hd HR
       have hs3:=hbel3.size
       have HB3:=Hd hbel3
       have HL3:Hid ((tx V (j+1)++[45]).reverse.length=j+1+1):=by show _=_;rw[List.length_reverse];exact hl3
       clear HR hlj hl3 hb3 hbel3 hown' hgrow hot2
       go_wp2_with fail
       refine HRH.out.mono ?_
       rintro e w8 ⟨⟨v8,rfl⟩,hb8,hg10⟩
       have hcv:=conv_any (cap:=c3) hb8 (fun e he=>by
        rcases List.mem_append.1 (List.mem_reverse.1 he) with h|h
        .exact tx_dg V (j+1) e h
        .obtain rfl:e=45:=by simpa using h
         decide)
       rw[HL3.out]at hcv
       have HRES:Hid (.string ⟨((tx V (j+1)++[45]).reverse.map UInt8.ofNat).toArray⟩=Value.string (decS true V)):=by
        have h:=HDECH.out true
        simp only[if_true]at h
        show _=_
        rw[h];rfl
       have HBEL:=Hd (HB3.out.trans (Grown.below hg10 hg7 hs3))
       rw[HRES.out]at hcv
       clear hb8 hg10
       go_wp2
       go_ret
       exact ⟨rfl,HBEL.out⟩
  .have hpk:10 ^ (9*k)<=V:=Nat.le_of_not_lt fun h=>hz (Nat.div_eq_of_lt h)
   have hkb:=pow_bound hpk hVn
   have HST:=Hd (div_step V k)
   have HDG:=fun i (h:i<9)=>digit_at V k i h
   have HDGH:=Hd HDG
   clear HDG
   obtain ⟨u,eu⟩:∃u,Hid (V / 10 ^ (9*k)=u):=⟨_,rfl⟩
   rw[eu.out]at hz hbf HST HDGH ⊢
   have hl:0<(dig b32 u).length:=List.length_pos_iff.2 fun h=>hz ((dig_nil b32_one).1 h)
   have HDW:=callsIn_wide.1 (divWord_any g cap cap 1000000000 (dig b32 u) wr hbf (Dg_dig b32_one u) (by decide) (by decide) hbf.le hg3)
   obtain ⟨hq1,hq2⟩:=divs_quot (d:=1000000000) (by decide) (dig b32 u)
   rw[val_dig b32_one]at hq1 hq2
   have hPl:u % 1000000000<1000000000:=Nat.mod_lt _ (by decide)
   obtain ⟨P,eP⟩:∃P,Hid (u % 1000000000=P):=⟨_,rfl⟩
   rw[eP.out]at hPl HDGH hq2
   have hdq:=divs_dg (d:=1000000000) (by decide) (Dg_dig b32_one u)
   have hlq:=divs_length 1000000000 (dig b32 u)
   obtain ⟨qs,hqs⟩:∃qs,(divs 1000000000 (dig b32 u)).1=qs:=⟨_,rfl⟩
   rw[hqs]at hq1 hdq hlq HDW
   rw[hq2]at HDW
   have htr:trimL qs=dig b32 (u / 1000000000):=by rw[trimL_dig b32_one hdq,hq1]
   have hnr:some g≠(Value.slice tA (9*k) tc).ownBlock:=hbf.not_row (by decide) hot
   have HDWH:=Hd HDW
   have hlz:(0:Int)<((dig b32 u).length:Int):=by omega
   clear HDW hq1 hq2 hqs
   go_wp2_with fail
   refine HDWH.out.mono ?_
   rintro e w6 ⟨rfl,hbf6,hgr6⟩
   have hot6:=hot.kept hgr6 (.inr (Ne.symm hnr))
   have tZ6:=tZ5.kept hgr6 (by simp;omega)
   have hb6:=hb5.trans (Grown.below hgr6 (by omega) hb5.size)
   have HTR:=Hd (trim_any (some ⟨g,0,none⟩) cap w6.heap.size qs w6 (hbf6.rd hbf6.lt) hbf6.le hg3)
   rw[hlq,<-trimL_length,htr]at HTR
   have hbf7:=hbf6.take (trimN qs)
   change Buf _ _ _ _ (trimL qs) _ at hbf7
   rw[htr]at hbf7
   clear hbf hot tZ5 hb5 hgr6 hbf6 hnr htr hdq hlq HDWH
   go_wp2_with fail
   refine HTR.out.mono ?_
   rintro e w' ⟨rfl,rfl⟩
   clear HTR hl hlz
   obtain ⟨wo,hwo⟩:∃wo:World,wo=wr:=⟨_,rfl⟩
   go_wp2
   go_loopw [4,5,26] (fun tv pv iv wi=>∃(i:Nat) (sA:Option Addr) (sc:Nat),iv=.int .i64 i/\i<=9/\pv=.int .u32 (P / 10 ^ i:Nat)/\tv=.slice sA (9*k+i) sc/\Buf .u32 82 g cap (dig b32 (u / 1000000000)) wi/\wi.ownsRow w.heap.size 5 1 (.slice sA (9*k+i) sc) (9*k+i) (ints .u8 (tx V (9*k+i)))/\Zat wi w.heap.size (.bool neg) (.slice A xs.length c)/\Below w.heap.size w wi)
    (fun _ _ iv _=>9-(intOf iv).toNat)
   case atStart=>exact ⟨0,tA,tc,rfl,by omega,by simp,rfl,hbf7,hot6,tZ6,hb6⟩
   case round =>
    obtain ⟨i,sA,sc,rfl,hi9,rfl,rfl,hbi,hoi,tZi,hbel⟩:=hrel
    by_cases hi:i<9
    .have HD:=Hd (HDGH.out i hi)
     obtain ⟨p,hp⟩:∃p,P / 10 ^ i=p:=⟨_,rfl⟩
     have hp2:P / 10 ^ (i+1)=p / 10:=by rw[Nat.pow_succ,<-Nat.div_div_eq_div_mul,hp]
     have hpl:p<1000000000:=by rw[<-hp];exact Nat.lt_of_le_of_lt (Nat.div_le_self _ _) hPl
     rw[hp]at HD ⊢
     have HP2:=Hd hp2
     have d1:p % 10<10:=Nat.mod_lt _ (by decide)
     obtain ⟨r,hr⟩:∃r,p % 10=r:=⟨_,rfl⟩
     obtain ⟨q,hq⟩:∃q,p / 10=q:=⟨_,rfl⟩
     rw[hr]at HD d1
     rw[hq]at HP2
     have hql:q<1000000000:=by rw[<-hq];omega
     have T1:Int.tmod (p:Int) 10=(r:Int):=by rw[<-hr];rfl
     have T2:Int.tdiv (p:Int) 10=(q:Int):=by rw[<-hq];rfl
     have W1:IntKind.u32.wrap (r:Int)=(r:Int):=IntWalk.u32_in _ (by omega)
     have W2:IntKind.u32.wrap (48+(r:Int))=48+(r:Int):=IntWalk.u32_in _ (by omega)
     have W3:IntKind.u8.wrap (48+(r:Int))=48+(r:Int):=by simp[IntKind.wrap,IntKind.bits,IntKind.signed];omega
     have W4:IntKind.u32.wrap (q:Int)=(q:Int):=IntWalk.u32_in _ (by omega)
     have hiz:(i:Int)<9:=by omega
     have W5:IntKind.i64.wrap ((i:Int)+1)=(i:Int)+1:=IntWalk.i64_in _ (by omega)
     have hs1:=hbel.size
     have hb1:=hbel.alloc hs1 (.cells #[.int .u8 (48+(r:Int))] 5)
     have ho1:=hoi.alloc (.cells #[.int .u8 (48+(r:Int))] 5)
     have hnr:=hbi.not_row (by decide) hoi
     have hnz:=tZi.not_row hoi (by decide)
     have NEXT:∀v' w1,w1.ownsRow w.heap.size 5 1 v' (9*k+i+1) (ints .u8 (tx V (9*k+i))++[.int .u8 (48+(r:Int))])->(wr.alloc (.cells #[.int .u8 (48+(r:Int))] 5)).grownBy w1 (Value.slice sA (9*k+i) sc).ownBlock ->
       ∃(A2:Option Addr) (c2:Nat),v'=.slice A2 (9*k+(i+1)) c2/\Buf .u32 82 g cap (dig b32 (u / 1000000000)) w1/\w1.ownsRow w.heap.size 5 1 (.slice A2 (9*k+(i+1)) c2) (9*k+(i+1)) (ints .u8 (tx V (9*k+(i+1))))/\Zat w1 w.heap.size (.bool neg) (.slice A xs.length c)/\Below w.heap.size w w1:=by
      intro v' w1 hown' hgrow
      obtain ⟨A2,c2,rfl⟩:=own_shape hown'
      refine ⟨A2,c2,rfl,(hbi.kept (World.grownBy_alloc _ _ none) (by simp)).kept hgrow hnr,?_,(tZi.alloc _).kept hgrow hnz,hb1.grown hgrow (by simp;omega) (fun j e=>(hoi.lt j e).1)⟩
      rw[<-Nat.add_assoc,tx_succ,<-HD.out]
      simpa [ints]using hown'
     have HNX:=Hd NEXT
     clear NEXT hr hq hp hp2 hbi hoi tZi hbel hb1 hnr hnz
     go_wp2_with (at_builtin;refine wpList_append_own _ rfl (.tmp 28) (.tmp 33) 90 rfl w.heap.size 5 i0 (.int .u8 0) 1 1 Tryz.underlying90 hi' hz0 hz1 hz2 rfl (by decide) (.slice sA (9*k+i) sc) (9*k+i) _ rfl ho1 ⟨wr.heap.size,0,none⟩ 1 1 [.int .u8 (48+(r:Int))] rfl rfl ?c1 (by simp[Value.oneCell']) (by unfold maxLen;omega) (by omega) (by simp;omega) ?_)
     case c1 =>
      intro j u' hj
      match j,hj with
      | 0,hj =>
       simp at hj
       subst hj
       simp[Addr.add]
     .intro v' w1 hown' hgrow _
      obtain ⟨A2,c2,rfl,n1,n2,n3,n4⟩:=HNX.out v' w1 hown' hgrow
      clear hown' hgrow ho1
      go_wp2
      go_roundw
      case rel=>exact ⟨i+1,A2,c2,by simp,by omega,by rw[HP2.out],rfl,n1,n2,n3,n4⟩
      case measure=>simp[intOf];omega
    .obtain rfl:i=9:=by omega
     have e9:9*k+9=9*(k+1):=by omega
     rw[e9]at hoi ⊢
     have HB:=Hd hbi
     have HO:=Hd hoi
     have HZ:=Hd tZi
     have HL:=Hd hbel
     rw[HST.out]at HB
     clear hbi hoi tZi hbel e9
     go_wp2
     go_roundw
     case rel=>exact ⟨k+1,sA,sc,by rw[HST.out],rfl,fun _=>by omega,fun _=>by omega,HB.out,HO.out,HZ.out,HL.out⟩
     case measure=>simp[lenV];omega
theorem format_any (neg:Bool){A:Option Addr}{c:Nat}{xs:List Nat}{w:World}(hx:Arg w A c xs) :
  Calls Tryz.prog 69 #[.agg #[.bool neg,.slice A xs.length c]] w fun e w'=>e=.returned (.string (decS neg (val b32 xs)))/\Below w.heap.size w w':=by
 by_cases h0:val b32 xs=0
 .exact format_zero neg hx h0
 .exact format_pos neg hx h0
def DivRet2 (w:World)(q m:Nat)(e:Ending)(w':World):Prop:=∃A1 c1 qs A2 c2 rs,e=.returned (.tuple #[.slice A1 qs.length c1,.slice A2 rs.length c2])/\Arg w' A1 c1 qs/\Arg w' A2 c2 rs/\val b32 qs=q/\val b32 rs=m/\Below w.heap.size w w'
theorem DivRet.two {w:World}{q m k:Nat}{e:Ending}{w':World}(h:DivRet w q m e w')(hq:q<b32 ^ k)(hk:k<=4294967295):DivRet2 w q m e w':=by
 obtain ⟨A1,c1,rs,A2,c2,rfl,r1,r2,r3,r4,r5,r6,r7,r8,r9,hb⟩:=h
 have:=dig_length_le b32_one hq
 exact ⟨A1,c1,dig b32 q,A2,c2,rs,rfl,⟨r1,Dg_dig b32_one _,r5,r6,by omega⟩,⟨r2,r3,r7,r8,r9⟩,val_dig b32_one q,r4,hb⟩
theorem divide_word {A A':Option Addr}{c c':Nat}{xs:List Nat}{d:Nat}{w:World}(hx:Arg w A c xs)(hy:Arg w A' c' [d])(tx:trimL xs=xs)(ty:trimL [d]=[d])(hd0:0<d)(hlt:val b32 [d]<=val b32 xs)(hl:2<xs.length) :
  Calls Tryz.prog 125 #[.slice A xs.length c,.slice A' 1 c'] w (DivRet2 w (val b32 xs / d) (val b32 xs % d)):=by
 have HC:=Hd (compare_l hx hy)
 rw[tx,ty]at HC
 obtain ⟨cv,hcv,hcv0⟩:∃cv,cmpN (val b32 xs) (val b32 [d])=cv/\0<=cv:=⟨_,rfl,by unfold cmpN;split<;>(try split)<;>omega⟩
 rw[hcv]at HC
 have HX:=Hd hx
 have HY:=Hd hy
 have hd:d<4294967296:=hy.dg d (by simp)
 have hxs:=hx.small
 clear hcv hx hy tx ty hlt
 go_enter Tryz.func125,Tryz.ntmps125
 go_wp2_with fail
 refine HC.out.mono ?_
 rintro e w0 ⟨rfl,hb0⟩
 have HCL:=Hd (clone_any c (HX.out.to hb0).rd (by omega))
 go_wp2_with fail
 refine HCL.out.mono ?_
 rintro e w1 ⟨v,rfl,hown,hb1⟩
 obtain ⟨j,hj⟩:∃j,xs.length=j+1:=⟨xs.length-1,by omega⟩
 have hown2:=hown
 rw[hj]at hown2
 obtain ⟨g,cap,rfl⟩:=ownsRow_succ hown2
 rw[<-hj]at hown2
 obtain ⟨hbf,hg1,hg2,hg3⟩:=Buf.of_own rfl hown2
 obtain ⟨b2,o2,eA,_,hc2⟩:=((HY.out.to hb0).to hb1).rd.at_ (k:=0) (by simp)
 have cy:=hc2 0 (by simp)
 simp only[List.getElem_cons_zero,Nat.add_zero]at cy
 have HD:=Hd (callsIn_wide.1 (divWord_any g cap cap d xs w1 hbf HX.out.dg hd0 hd hbf.le hg3))
 have hb01:=Bxb hb0 hb1
 rw[eA]
 have HB:=Hd hb01
 have hszg:w.heap.size<=g:=Nat.le_trans hb0.size hg1
 rw[<-hj]
 clear hown hown2 hc2 eA HCL hb0 hb1 hj hb01
 go_wp2_with fail
 refine HD.out.mono ?_
 rintro e w2 ⟨rfl,hbf2,hg⟩
 have hdl:(divs d xs).1.length=xs.length:=divs_length d xs
 have hb2:=HB.out.trans (Grown.below hg hszg HB.out.size)
 obtain ⟨hq1,hq3⟩:=divs_quot hd0 xs
 have hdd:=divs_dg hd0 HX.out.dg
 have hq2:=divs_lt hd0 xs
 obtain ⟨r,er⟩:∃r,(divs d xs).2=r:=⟨_,rfl⟩
 rw[er]at hq2 hq3 ⊢
 have hA1:Arg w2 (some ⟨g,0,none⟩) cap (divs d xs).1:=⟨hbf2.rd hbf2.lt,hdd,hbf2.le,hg3,by rw[hdl];exact hxs⟩
 have hnew:=Rd.new .u32 w2 82 [r]
 have HRES:Hid (DivRet2 w (val b32 xs / d) (val b32 xs % d) (.returned (.tuple #[.slice (some ⟨g,0,none⟩) xs.length cap,.slice (some ⟨w2.heap.size,0,none⟩) 1 1])) (w2.alloc (.cells #[.int .u32 (r:Nat)] 82))) :=
  ⟨some ⟨g,0,none⟩,cap,(divs d xs).1,some ⟨w2.heap.size,0,none⟩,1,[r],by rw[hdl];rfl,hA1.to ((Below.refl _ _).alloc (Nat.le_refl _) _),⟨hnew.more (by simp),Dg.one (by unfold b32;omega),by simp,by omega,by simp⟩,hq1,by simp[val,hq3],hb2.alloc hb2.size _⟩
 clear hA1 hnew hbf2 hg hbf hdl hq1 hq3 hdd hb2 er
 go_wp2
 go_ret2
 exact HRES.out
theorem divide_far {A A':Option Addr}{c c':Nat}{xs ys:List Nat}{w:World}(hx:Arg w A c xs)(hy:Arg w A' c' ys)(tx:trimL xs=xs)(ty:trimL ys=ys)(hlt:val b32 ys<=val b32 xs)(hl:2<xs.length)(n2:Nat)(hl2:ys.length=n2+2)(hle:ys.length<=xs.length)(htop:ys.getD (n2+1) 0≠0)(hsm:xs.length<=4294967294) :
  Calls Tryz.prog 125 #[.slice A xs.length c,.slice A' ys.length c'] w (DivRet2 w (val b32 xs / val b32 ys) (val b32 xs % val b32 ys)):=by
 have HC:=Hd (compare_l hx hy)
 rw[tx,ty]at HC
 obtain ⟨cv,hcv,hcv0⟩:∃cv,cmpN (val b32 xs) (val b32 ys)=cv/\0<=cv:=⟨_,rfl,by unfold cmpN;split<;>(try split)<;>omega⟩
 rw[hcv]at HC
 have HX:=Hd hx
 have HY:=Hd hy
 have hly:2<=ys.length:=by omega
 have HL2:=Hd hl2
 clear hcv hx hy tx ty hlt hl2
 go_enter Tryz.func125,Tryz.ntmps125
 go_wp2_with fail
 refine HC.out.mono ?_
 rintro e w0 ⟨rfl,hb0⟩
 have HD:=Hd (callsIn_wide.1 (divideLong_any (HX.out.to hb0) (HY.out.to hb0) n2 HL2.out hle htop))
 have HB:=Hd hb0
 clear hb0
 go_wp2_with fail
 refine HD.out.mono ?_
 rintro e w1 ⟨g1,g2,qs,rs,rfl,b1,b2,d1,d2,l2,l1,v1,v2,o1,o2,hne,hb1⟩
 have HRES:Hid (DivRet2 w (val b32 xs / val b32 ys) (val b32 xs % val b32 ys) (.returned (.tuple #[.slice (some ⟨g1,0,none⟩) qs.length qs.length,.slice (some ⟨g2,0,none⟩) rs.length rs.length])) w1) :=
  ⟨some ⟨g1,0,none⟩,_,qs,some ⟨g2,0,none⟩,_,rs,rfl,⟨b1.rd b1.lt,d1,Nat.le_refl _,by omega,by omega⟩,⟨b2.rd b2.lt,d2,Nat.le_refl _,by omega,by omega⟩,v1,v2,HB.out.trans (hb1.mono HB.out.size)⟩
 clear b1 b2 d1 d2 v1 v2 hb1 l1 l2
 go_wp2
 go_ret2
 exact HRES.out
theorem trimmed_top {xs:List Nat}{n:Nat}(hd:Dg b32 xs)(ht:trimL xs=xs)(hn:xs.length=n+1):xs.getD n 0≠0:=by
 intro h0
 have e1:=top_one b32 xs n hn
 rw[h0,Nat.mul_zero,Nat.add_zero]at e1
 have l1:val b32 (xs.take n)<b32 ^ n:=by
  have:=val_lt (hd.take n)
  rwa [List.length_take,Nat.min_eq_left (by omega)]at this
 have h2:=dig_length_le b32_one (show val b32 xs<b32 ^ n by omega)
 rw[<-trimL_dig b32_one hd,ht]at h2
 omega
theorem divide_all {A A':Option Addr}{c c':Nat}{xs ys:List Nat}{w:World}(hx:Arg w A c xs)(hy:Arg w A' c' ys)(h0:0<val b32 ys)(hsm:xs.length<=4294967294) :
  Calls Tryz.prog 125 #[.slice A (trimL xs).length c,.slice A' (trimL ys).length c'] w (DivRet2 w (val b32 xs / val b32 ys) (val b32 xs % val b32 ys)):=by
 have tt:∀{zs:List Nat},Dg b32 zs->trimL (trimL zs)=trimL zs:=fun h=>by rw[trimL_dig b32_one h,trimL_of_dig b32_one]
 have hxt:=hx.trim
 have hyt:=hy.trim
 have txx:=tt hx.dg
 have tyy:=tt hy.dg
 have hsm2:(trimL xs).length<=4294967294:=Nat.le_trans (trimL_le xs) hsm
 rw[<-val_trimL (b:=b32) xs,<-val_trimL (b:=b32) ys]
 rw[<-val_trimL (b:=b32) ys]at h0
 generalize trimL xs=us at *
 generalize trimL ys=vs at *
 have hq:val b32 us / val b32 vs<b32 ^ us.length:=Nat.lt_of_le_of_lt (Nat.div_le_self _ _) (val_lt hxt.dg)
 rcases Nat.lt_or_ge (val b32 us) (val b32 vs) with h|h
 .exact (divide_less hxt hyt txx tyy h).mono fun e w' hh=>hh.two hq hxt.small
 .have hle:vs.length<=us.length:=by
   have h1:=val_lt hxt.dg
   rw[<-tyy,trimL_dig b32_one hyt.dg]
   exact dig_length_le b32_one (by omega)
  rcases Nat.lt_or_ge 2 us.length with hl|hl
  .match vs,hyt,tyy,h0,hle with
   | [],_,_,h0,_=>simp[val]at h0
   | [d],hyt,tyy,h0,_ =>
    have e1:val b32 [d]=d:=by simp[val]
    have:=divide_word hxt hyt txx tyy (by rw[<-e1];exact h0) h hl
    rw[e1]
    exact this
   | d::e::t,hyt,tyy,h0,hle =>
    refine divide_far hxt hyt txx tyy h hl t.length (by simp) hle (trimmed_top hyt.dg tyy (by simp)) hsm2
  .exact (divide_two hxt hyt txx tyy h h0 hl (by omega)).mono fun e w' hh=>hh.two hq hxt.small
theorem dx_ff {A A':Option Addr}{c c':Nat}{xs ys:List Nat}{w:World}(hx:Arg w A c xs)(hy:Arg w A' c' ys)(hxl:xs.length<=4294967293)(h0:0<val b32 ys) :
  Calls Tryz.prog 101 #[.agg #[.bool false,.slice A xs.length c],.agg #[.bool false,.slice A' ys.length c']] w (DRet w (zof false (val b32 xs / val b32 ys)) ((val b32 xs % val b32 ys:Nat):Int)):=by
 have HX:=Hd hx
 have HY:=Hd hy
 have H0:=Hd h0
 have hlen:((trimL ys).length=0)↔val b32 ys=0:=by
  rw[trimL_dig b32_one hy.dg]
  exact ⟨fun h=>(dig_nil b32_one).1 (List.eq_nil_of_length_eq_zero h),fun h=>by rw[h];rfl⟩
 have hq:((((trimL ys).length:Nat):Int)==0)=false:=by
  have:(trimL ys).length≠0:=fun h=>by have:=hlen.1 h;omega
  rw[beq_eq_false_iff_ne];omega
 clear hx hy h0 hlen
 obtain ⟨W0,hW0⟩:∃W0,W0=(((w.alloc (.cells #[.bool false,.slice A xs.length c] 24)).alloc (.cells #[.bool false,.slice A' ys.length c'] 24)).alloc (.cells #[.bool false,.slice none 0 0] 24)).alloc (.cells #[.bool false,.slice none 0 0] 24):=⟨_,rfl⟩
 have hb:Below w.heap.size w W0:=by rw[hW0];exact ((((Below.refl _ _).alloc (Nat.le_refl _) _).alloc (by simp) _).alloc (by simp;omega) _).alloc (by simp;omega) _
 have tX:Zat W0 w.heap.size (.bool false) (.slice A xs.length c):=by rw[hW0];exact (((Zat.new w _ _).alloc _).alloc _).alloc _
 have tY:Zat W0 (w.heap.size+1) (.bool false) (.slice A' ys.length c'):=by
  have h:=Zat.new (w.alloc (.cells #[.bool false,.slice A xs.length c] 24)) (.bool false) (.slice A' ys.length c')
  rw[World.size_alloc]at h
  rw[hW0];exact (h.alloc _).alloc _
 have tQ:Zat W0 (w.heap.size+1+1) (.bool false) (.slice none 0 0):=by
  have h:=Zat.new ((w.alloc (.cells #[.bool false,.slice A xs.length c] 24)).alloc (.cells #[.bool false,.slice A' ys.length c'] 24)) (.bool false) (.slice none 0 0)
  rw[World.size_alloc,World.size_alloc]at h
  rw[hW0];exact h.alloc _
 have tR:Zat W0 (w.heap.size+1+1+1) (.bool false) (.slice none 0 0):=by
  have h:=Zat.new (((w.alloc (.cells #[.bool false,.slice A xs.length c] 24)).alloc (.cells #[.bool false,.slice A' ys.length c'] 24)).alloc (.cells #[.bool false,.slice none 0 0] 24)) (.bool false) (.slice none 0 0)
  rw[World.size_alloc,World.size_alloc,World.size_alloc]at h
  rw[hW0];exact h
 have q1:=tX.two.c1
 have q2:=tY.two.c1
 have HW0:=Hd hW0
 clear hW0
 go_enter Tryz.func101,Tryz.ntmps101
 go_wp2_with fail
 rw[<-HW0.out]
 go_quiet ((first|(go_at_call 94;with_reducible exact Calls.quiet_of_same (trim_q (HX.out.to (hb.trans (bel_drewN (Below.refl _ _) _)))))|(go_at_call 94;with_reducible exact Calls.quiet_of_same (trim_q (HY.out.to (hb.trans (bel_drewN (Below.refl _ _) _)))))))
 rename_i nq
 have hb1:Below w.heap.size w (W0.drewN nq):=bel_drewN hb _
 have tX1:Two (W0.drewN nq) w.heap.size _ _:=tX.two.to (bel_drewN (Below.refl _ _) _)
 have tY1:Two (W0.drewN nq) (w.heap.size+1) _ _:=tY.two.to (bel_drewN (Below.refl _ _) _)
 have tQ1:Two (W0.drewN nq) (w.heap.size+1+1) _ _:=tQ.two.to (bel_drewN (Below.refl _ _) _)
 have tR1:Two (W0.drewN nq) (w.heap.size+1+1+1) _ _:=tR.two.to (bel_drewN (Below.refl _ _) _)
 generalize W0.drewN nq=W1 at hb1 tX1 tY1 tQ1 tR1 ⊢
 clear q1 q2 tX tY tQ tR hb HW0
 go_wp2_with fail
 refine (divide_all (HX.out.to hb1) (HY.out.to hb1) H0.out (by omega)).mono ?_
 rintro e w2 ⟨A1,c1,qs,A2,c2,rs,rfl,AQ',AR',vq,r4,hb2⟩
 have VQ:=Hd vq
 have r1:=AQ'.rd
 have r2:=AR'.rd
 have r3:=AR'.dg
 have r5:=AQ'.le
 have r6:=AQ'.cap
 have r7:=AR'.le
 have r8:=AR'.cap
 have r9:=AR'.small
 have dq:=AQ'.dg
 have hb3:=Bxb hb1 hb2
 have tX2:=tX1.to hb2
 have tY2:=tY1.to hb2
 have tQ2:=tQ1.to hb2
 have tR2:=tR1.to hb2
 have R4:=Hd r4
 have AR:=Hd (⟨r2,r3,r7,r8,r9⟩:Arg w2 A2 c2 rs)
 have R1:=Hd r1
 have AQ:=Hd AQ'
 clear AQ' AR' vq r1 r2 r4 hb1 hb2 tX1 tY1 tQ1 tR1
 have p1:=tX2.c0
 have p2:=tY2.c0
 have I1:=Hd (integer_l false R1.out dq r5 r6)
 rw[VQ.out]at I1
 obtain ⟨q,eq⟩:∃q:Int,Hid (zof false (val b32 xs / val b32 ys)=q):=⟨_,rfl⟩
 rw[eq.out]at I1
 go_wp2_with fail
 refine I1.out.mono ?_
 rintro e w5 ⟨A5,c5,rfl,s1,s2,s3,hb10⟩
 have hb11:=Bxb hb3 hb10
 have tQ5:=tQ2.to hb10
 have tR5:=tR2.to hb10
 have I2:=Hd (integer_l false (AR.out.rd.to hb10) r3 r7 r8)
 rw[R4.out]at I2
 obtain ⟨r,er⟩:∃r:Int,Hid (zof false (val b32 xs % val b32 ys)=r):=⟨_,rfl⟩
 rw[er.out]at I2
 have S1:=Hd s1
 clear s1 hb10 hb3 tQ2 tR2
 go_wp2_with fail
 refine I2.out.mono ?_
 rintro e w6 ⟨A6,c6,rfl,v1,v2,v3,hb12⟩
 have HB:=Hd (Bxb hb11 hb12)
 have TQ:=Hd (tQ5.to hb12)
 have TR:=Hd (tR5.to hb12)
 obtain ⟨g1,g2,g3,g4,g5⟩:=tQ5.to hb12
 obtain ⟨k1,k2,k3,k4,k5⟩:=tR5.to hb12
 have S3:=Hd (S1.out.to hb12)
 have V3:=Hd v1
 clear v1 hb12 hb11 tQ5 tR5 p1 p2
 go_wp2
 have tF:=TQ.out.set (.bool (decide (q<0))) (.slice A5 (dig b32 q.natAbs).length c5)
 have tG:=(TR.out.far (g':=w.heap.size+1+1) (by omega) (.bool (decide (q<0))) (.slice A5 (dig b32 q.natAbs).length c5)).set (.bool (decide (r<0))) (.slice A6 (dig b32 r.natAbs).length c6)
 have tH:=tF.far (g':=w.heap.size+1+1+1) (by omega) (.bool (decide (r<0))) (.slice A6 (dig b32 r.natAbs).length c6)
 refine bodyPost_ret (v:=.tuple #[.agg #[.bool (decide (q<0)),.slice A5 (dig b32 q.natAbs).length c5],.agg #[.bool (decide (r<0)),.slice A6 (dig b32 r.natAbs).length c6],.int .i64 0])
  (by simp[results,Tryz.f101,go_sem,tH.c0,tH.c1,tG.c0,tG.c1]) rfl ?_
 rw[eq.out,show (((val b32 xs % val b32 ys:Nat):Int))=r from er.out]
 exact dret_stored TQ.out TR.out (by omega) (by omega) (by omega) S3.out V3.out s2 s3 v2 v3 HB.out
theorem dx_ft {A A':Option Addr}{c c':Nat}{xs ys:List Nat}{w:World}(hx:Arg w A c xs)(hy:Arg w A' c' ys)(hxl:xs.length<=4294967293)(h0:0<val b32 ys) :
  Calls Tryz.prog 101 #[.agg #[.bool false,.slice A xs.length c],.agg #[.bool true,.slice A' ys.length c']] w (DRet w (zof true (val b32 xs / val b32 ys)) ((val b32 xs % val b32 ys:Nat):Int)):=by
 have HX:=Hd hx
 have HY:=Hd hy
 have H0:=Hd h0
 have hlen:((trimL ys).length=0)↔val b32 ys=0:=by
  rw[trimL_dig b32_one hy.dg]
  exact ⟨fun h=>(dig_nil b32_one).1 (List.eq_nil_of_length_eq_zero h),fun h=>by rw[h];rfl⟩
 have hq:((((trimL ys).length:Nat):Int)==0)=false:=by
  have:(trimL ys).length≠0:=fun h=>by have:=hlen.1 h;omega
  rw[beq_eq_false_iff_ne];omega
 clear hx hy h0 hlen
 obtain ⟨W0,hW0⟩:∃W0,W0=(((w.alloc (.cells #[.bool false,.slice A xs.length c] 24)).alloc (.cells #[.bool true,.slice A' ys.length c'] 24)).alloc (.cells #[.bool false,.slice none 0 0] 24)).alloc (.cells #[.bool false,.slice none 0 0] 24):=⟨_,rfl⟩
 have hb:Below w.heap.size w W0:=by rw[hW0];exact ((((Below.refl _ _).alloc (Nat.le_refl _) _).alloc (by simp) _).alloc (by simp;omega) _).alloc (by simp;omega) _
 have tX:Zat W0 w.heap.size (.bool false) (.slice A xs.length c):=by rw[hW0];exact (((Zat.new w _ _).alloc _).alloc _).alloc _
 have tY:Zat W0 (w.heap.size+1) (.bool true) (.slice A' ys.length c'):=by
  have h:=Zat.new (w.alloc (.cells #[.bool false,.slice A xs.length c] 24)) (.bool true) (.slice A' ys.length c')
  rw[World.size_alloc]at h
  rw[hW0];exact (h.alloc _).alloc _
 have tQ:Zat W0 (w.heap.size+1+1) (.bool false) (.slice none 0 0):=by
  have h:=Zat.new ((w.alloc (.cells #[.bool false,.slice A xs.length c] 24)).alloc (.cells #[.bool true,.slice A' ys.length c'] 24)) (.bool false) (.slice none 0 0)
  rw[World.size_alloc,World.size_alloc]at h
  rw[hW0];exact h.alloc _
 have tR:Zat W0 (w.heap.size+1+1+1) (.bool false) (.slice none 0 0):=by
  have h:=Zat.new (((w.alloc (.cells #[.bool false,.slice A xs.length c] 24)).alloc (.cells #[.bool true,.slice A' ys.length c'] 24)).alloc (.cells #[.bool false,.slice none 0 0] 24)) (.bool false) (.slice none 0 0)
  rw[World.size_alloc,World.size_alloc,World.size_alloc]at h
  rw[hW0];exact h
 have q1:=tX.two.c1
 have q2:=tY.two.c1
 have HW0:=Hd hW0
 clear hW0
 go_enter Tryz.func101,Tryz.ntmps101
 go_wp2_with fail
 rw[<-HW0.out]
 go_quiet ((first|(go_at_call 94;with_reducible exact Calls.quiet_of_same (trim_q (HX.out.to (hb.trans (bel_drewN (Below.refl _ _) _)))))|(go_at_call 94;with_reducible exact Calls.quiet_of_same (trim_q (HY.out.to (hb.trans (bel_drewN (Below.refl _ _) _)))))))
 rename_i nq
 have hb1:Below w.heap.size w (W0.drewN nq):=bel_drewN hb _
 have tX1:Two (W0.drewN nq) w.heap.size _ _:=tX.two.to (bel_drewN (Below.refl _ _) _)
 have tY1:Two (W0.drewN nq) (w.heap.size+1) _ _:=tY.two.to (bel_drewN (Below.refl _ _) _)
 have tQ1:Two (W0.drewN nq) (w.heap.size+1+1) _ _:=tQ.two.to (bel_drewN (Below.refl _ _) _)
 have tR1:Two (W0.drewN nq) (w.heap.size+1+1+1) _ _:=tR.two.to (bel_drewN (Below.refl _ _) _)
 generalize W0.drewN nq=W1 at hb1 tX1 tY1 tQ1 tR1 ⊢
 clear q1 q2 tX tY tQ tR hb HW0
 go_wp2_with fail
 refine (divide_all (HX.out.to hb1) (HY.out.to hb1) H0.out (by omega)).mono ?_
 rintro e w2 ⟨A1,c1,qs,A2,c2,rs,rfl,AQ',AR',vq,r4,hb2⟩
 have VQ:=Hd vq
 have r1:=AQ'.rd
 have r2:=AR'.rd
 have r3:=AR'.dg
 have r5:=AQ'.le
 have r6:=AQ'.cap
 have r7:=AR'.le
 have r8:=AR'.cap
 have r9:=AR'.small
 have dq:=AQ'.dg
 have hb3:=Bxb hb1 hb2
 have tX2:=tX1.to hb2
 have tY2:=tY1.to hb2
 have tQ2:=tQ1.to hb2
 have tR2:=tR1.to hb2
 have R4:=Hd r4
 have AR:=Hd (⟨r2,r3,r7,r8,r9⟩:Arg w2 A2 c2 rs)
 have R1:=Hd r1
 have AQ:=Hd AQ'
 clear AQ' AR' vq r1 r2 r4 hb1 hb2 tX1 tY1 tQ1 tR1
 have p1:=tX2.c0
 have p2:=tY2.c0
 have I1:=Hd (integer_l true R1.out dq r5 r6)
 rw[VQ.out]at I1
 obtain ⟨q,eq⟩:∃q:Int,Hid (zof true (val b32 xs / val b32 ys)=q):=⟨_,rfl⟩
 rw[eq.out]at I1
 go_wp2_with fail
 refine I1.out.mono ?_
 rintro e w5 ⟨A5,c5,rfl,s1,s2,s3,hb10⟩
 have hb11:=Bxb hb3 hb10
 have tQ5:=tQ2.to hb10
 have tR5:=tR2.to hb10
 have I2:=Hd (integer_l false (AR.out.rd.to hb10) r3 r7 r8)
 rw[R4.out]at I2
 obtain ⟨r,er⟩:∃r:Int,Hid (zof false (val b32 xs % val b32 ys)=r):=⟨_,rfl⟩
 rw[er.out]at I2
 have S1:=Hd s1
 clear s1 hb10 hb3 tQ2 tR2
 go_wp2_with fail
 refine I2.out.mono ?_
 rintro e w6 ⟨A6,c6,rfl,v1,v2,v3,hb12⟩
 have HB:=Hd (Bxb hb11 hb12)
 have TQ:=Hd (tQ5.to hb12)
 have TR:=Hd (tR5.to hb12)
 obtain ⟨g1,g2,g3,g4,g5⟩:=tQ5.to hb12
 obtain ⟨k1,k2,k3,k4,k5⟩:=tR5.to hb12
 have S3:=Hd (S1.out.to hb12)
 have V3:=Hd v1
 clear v1 hb12 hb11 tQ5 tR5 p1 p2
 go_wp2
 have tF:=TQ.out.set (.bool (decide (q<0))) (.slice A5 (dig b32 q.natAbs).length c5)
 have tG:=(TR.out.far (g':=w.heap.size+1+1) (by omega) (.bool (decide (q<0))) (.slice A5 (dig b32 q.natAbs).length c5)).set (.bool (decide (r<0))) (.slice A6 (dig b32 r.natAbs).length c6)
 have tH:=tF.far (g':=w.heap.size+1+1+1) (by omega) (.bool (decide (r<0))) (.slice A6 (dig b32 r.natAbs).length c6)
 refine bodyPost_ret (v:=.tuple #[.agg #[.bool (decide (q<0)),.slice A5 (dig b32 q.natAbs).length c5],.agg #[.bool (decide (r<0)),.slice A6 (dig b32 r.natAbs).length c6],.int .i64 0])
  (by simp[results,Tryz.f101,go_sem,tH.c0,tH.c1,tG.c0,tG.c1]) rfl ?_
 rw[eq.out,show (((val b32 xs % val b32 ys:Nat):Int))=r from er.out]
 exact dret_stored TQ.out TR.out (by omega) (by omega) (by omega) S3.out V3.out s2 s3 v2 v3 HB.out
theorem dx_tfz {A A':Option Addr}{c c':Nat}{xs ys:List Nat}{w:World}(hx:Arg w A c xs)(hy:Arg w A' c' ys)(hxl:xs.length<=4294967293)(h0:0<val b32 ys)(hm:val b32 xs % val b32 ys=0) :
  Calls Tryz.prog 101 #[.agg #[.bool true,.slice A xs.length c],.agg #[.bool false,.slice A' ys.length c']] w (DRet w (zof true (val b32 xs / val b32 ys)) ((val b32 xs % val b32 ys:Nat):Int)):=by
 have HX:=Hd hx
 have HY:=Hd hy
 have H0:=Hd h0
 have HM:=Hd hm
 have hlen:((trimL ys).length=0)↔val b32 ys=0:=by
  rw[trimL_dig b32_one hy.dg]
  exact ⟨fun h=>(dig_nil b32_one).1 (List.eq_nil_of_length_eq_zero h),fun h=>by rw[h];rfl⟩
 have hq:((((trimL ys).length:Nat):Int)==0)=false:=by
  have:(trimL ys).length≠0:=fun h=>by have:=hlen.1 h;omega
  rw[beq_eq_false_iff_ne];omega
 clear hx hy h0 hlen hm
 obtain ⟨W0,hW0⟩:∃W0,W0=(((w.alloc (.cells #[.bool true,.slice A xs.length c] 24)).alloc (.cells #[.bool false,.slice A' ys.length c'] 24)).alloc (.cells #[.bool false,.slice none 0 0] 24)).alloc (.cells #[.bool false,.slice none 0 0] 24):=⟨_,rfl⟩
 have hb:Below w.heap.size w W0:=by rw[hW0];exact ((((Below.refl _ _).alloc (Nat.le_refl _) _).alloc (by simp) _).alloc (by simp;omega) _).alloc (by simp;omega) _
 have tX:Zat W0 w.heap.size (.bool true) (.slice A xs.length c):=by rw[hW0];exact (((Zat.new w _ _).alloc _).alloc _).alloc _
 have tY:Zat W0 (w.heap.size+1) (.bool false) (.slice A' ys.length c'):=by
  have h:=Zat.new (w.alloc (.cells #[.bool true,.slice A xs.length c] 24)) (.bool false) (.slice A' ys.length c')
  rw[World.size_alloc]at h
  rw[hW0];exact (h.alloc _).alloc _
 have tQ:Zat W0 (w.heap.size+1+1) (.bool false) (.slice none 0 0):=by
  have h:=Zat.new ((w.alloc (.cells #[.bool true,.slice A xs.length c] 24)).alloc (.cells #[.bool false,.slice A' ys.length c'] 24)) (.bool false) (.slice none 0 0)
  rw[World.size_alloc,World.size_alloc]at h
  rw[hW0];exact h.alloc _
 have tR:Zat W0 (w.heap.size+1+1+1) (.bool false) (.slice none 0 0):=by
  have h:=Zat.new (((w.alloc (.cells #[.bool true,.slice A xs.length c] 24)).alloc (.cells #[.bool false,.slice A' ys.length c'] 24)).alloc (.cells #[.bool false,.slice none 0 0] 24)) (.bool false) (.slice none 0 0)
  rw[World.size_alloc,World.size_alloc,World.size_alloc]at h
  rw[hW0];exact h
 have q1:=tX.two.c1
 have q2:=tY.two.c1
 have HW0:=Hd hW0
 clear hW0
 go_enter Tryz.func101,Tryz.ntmps101
 go_wp2_with fail
 rw[<-HW0.out]
 go_quiet ((first|(go_at_call 94;with_reducible exact Calls.quiet_of_same (trim_q (HX.out.to (hb.trans (bel_drewN (Below.refl _ _) _)))))|(go_at_call 94;with_reducible exact Calls.quiet_of_same (trim_q (HY.out.to (hb.trans (bel_drewN (Below.refl _ _) _)))))))
 rename_i nq
 have hb1:Below w.heap.size w (W0.drewN nq):=bel_drewN hb _
 have tX1:Two (W0.drewN nq) w.heap.size _ _:=tX.two.to (bel_drewN (Below.refl _ _) _)
 have tY1:Two (W0.drewN nq) (w.heap.size+1) _ _:=tY.two.to (bel_drewN (Below.refl _ _) _)
 have tQ1:Two (W0.drewN nq) (w.heap.size+1+1) _ _:=tQ.two.to (bel_drewN (Below.refl _ _) _)
 have tR1:Two (W0.drewN nq) (w.heap.size+1+1+1) _ _:=tR.two.to (bel_drewN (Below.refl _ _) _)
 generalize W0.drewN nq=W1 at hb1 tX1 tY1 tQ1 tR1 ⊢
 clear q1 q2 tX tY tQ tR hb HW0
 go_wp2_with fail
 refine (divide_all (HX.out.to hb1) (HY.out.to hb1) H0.out (by omega)).mono ?_
 rintro e w2 ⟨A1,c1,qs,A2,c2,rs,rfl,AQ',AR',vq,r4,hb2⟩
 have VQ:=Hd vq
 have r1:=AQ'.rd
 have r2:=AR'.rd
 have r3:=AR'.dg
 have r5:=AQ'.le
 have r6:=AQ'.cap
 have r7:=AR'.le
 have r8:=AR'.cap
 have r9:=AR'.small
 have dq:=AQ'.dg
 have hb3:=Bxb hb1 hb2
 have tX2:=tX1.to hb2
 have tY2:=tY1.to hb2
 have tQ2:=tQ1.to hb2
 have tR2:=tR1.to hb2
 have R4:=Hd r4
 have AR:=Hd (⟨r2,r3,r7,r8,r9⟩:Arg w2 A2 c2 rs)
 have R1:=Hd r1
 have AQ:=Hd AQ'
 clear AQ' AR' vq r1 r2 r4 hb1 hb2 tX1 tY1 tQ1 tR1
 have p1:=tX2.c0
 have p2:=tY2.c0
 have hrl:(trimL rs).length=0:=by
  rw[trimL_dig b32_one AR.out.dg,R4.out,HM.out];rfl
 have HT:=Hd (trim_l AR.out)
 rw[hrl]at HT
 clear hrl
 go_wp2_with fail
 refine HT.out.mono ?_
 rintro e w' ⟨rfl,rfl⟩
 have I1:=Hd (integer_l true R1.out dq r5 r6)
 rw[VQ.out]at I1
 obtain ⟨q,eq⟩:∃q:Int,Hid (zof true (val b32 xs / val b32 ys)=q):=⟨_,rfl⟩
 rw[eq.out]at I1
 go_wp2_with fail
 refine I1.out.mono ?_
 rintro e w5 ⟨A5,c5,rfl,s1,s2,s3,hb10⟩
 have hb11:=Bxb hb3 hb10
 have tQ5:=tQ2.to hb10
 have tR5:=tR2.to hb10
 have I2:=Hd (integer_l false (AR.out.rd.to hb10) r3 r7 r8)
 rw[R4.out]at I2
 obtain ⟨r,er⟩:∃r:Int,Hid (zof false (val b32 xs % val b32 ys)=r):=⟨_,rfl⟩
 rw[er.out]at I2
 have S1:=Hd s1
 clear s1 hb10 hb3 tQ2 tR2
 go_wp2_with fail
 refine I2.out.mono ?_
 rintro e w6 ⟨A6,c6,rfl,v1,v2,v3,hb12⟩
 have HB:=Hd (Bxb hb11 hb12)
 have TQ:=Hd (tQ5.to hb12)
 have TR:=Hd (tR5.to hb12)
 obtain ⟨g1,g2,g3,g4,g5⟩:=tQ5.to hb12
 obtain ⟨k1,k2,k3,k4,k5⟩:=tR5.to hb12
 have S3:=Hd (S1.out.to hb12)
 have V3:=Hd v1
 clear v1 hb12 hb11 tQ5 tR5 p1 p2
 go_wp2
 have tF:=TQ.out.set (.bool (decide (q<0))) (.slice A5 (dig b32 q.natAbs).length c5)
 have tG:=(TR.out.far (g':=w.heap.size+1+1) (by omega) (.bool (decide (q<0))) (.slice A5 (dig b32 q.natAbs).length c5)).set (.bool (decide (r<0))) (.slice A6 (dig b32 r.natAbs).length c6)
 have tH:=tF.far (g':=w.heap.size+1+1+1) (by omega) (.bool (decide (r<0))) (.slice A6 (dig b32 r.natAbs).length c6)
 refine bodyPost_ret (v:=.tuple #[.agg #[.bool (decide (q<0)),.slice A5 (dig b32 q.natAbs).length c5],.agg #[.bool (decide (r<0)),.slice A6 (dig b32 r.natAbs).length c6],.int .i64 0])
  (by simp[results,Tryz.f101,go_sem,tH.c0,tH.c1,tG.c0,tG.c1]) rfl ?_
 rw[eq.out,show (((val b32 xs % val b32 ys:Nat):Int))=r from er.out]
 exact dret_stored TQ.out TR.out (by omega) (by omega) (by omega) S3.out V3.out s2 s3 v2 v3 HB.out
theorem dx_ttz {A A':Option Addr}{c c':Nat}{xs ys:List Nat}{w:World}(hx:Arg w A c xs)(hy:Arg w A' c' ys)(hxl:xs.length<=4294967293)(h0:0<val b32 ys)(hm:val b32 xs % val b32 ys=0) :
  Calls Tryz.prog 101 #[.agg #[.bool true,.slice A xs.length c],.agg #[.bool true,.slice A' ys.length c']] w (DRet w (zof false (val b32 xs / val b32 ys)) ((val b32 xs % val b32 ys:Nat):Int)):=by
 have HX:=Hd hx
 have HY:=Hd hy
 have H0:=Hd h0
 have HM:=Hd hm
 have hlen:((trimL ys).length=0)↔val b32 ys=0:=by
  rw[trimL_dig b32_one hy.dg]
  exact ⟨fun h=>(dig_nil b32_one).1 (List.eq_nil_of_length_eq_zero h),fun h=>by rw[h];rfl⟩
 have hq:((((trimL ys).length:Nat):Int)==0)=false:=by
  have:(trimL ys).length≠0:=fun h=>by have:=hlen.1 h;omega
  rw[beq_eq_false_iff_ne];omega
 clear hx hy h0 hlen hm
 obtain ⟨W0,hW0⟩:∃W0,W0=(((w.alloc (.cells #[.bool true,.slice A xs.length c] 24)).alloc (.cells #[.bool true,.slice A' ys.length c'] 24)).alloc (.cells #[.bool false,.slice none 0 0] 24)).alloc (.cells #[.bool false,.slice none 0 0] 24):=⟨_,rfl⟩
 have hb:Below w.heap.size w W0:=by rw[hW0];exact ((((Below.refl _ _).alloc (Nat.le_refl _) _).alloc (by simp) _).alloc (by simp;omega) _).alloc (by simp;omega) _
 have tX:Zat W0 w.heap.size (.bool true) (.slice A xs.length c):=by rw[hW0];exact (((Zat.new w _ _).alloc _).alloc _).alloc _
 have tY:Zat W0 (w.heap.size+1) (.bool true) (.slice A' ys.length c'):=by
  have h:=Zat.new (w.alloc (.cells #[.bool true,.slice A xs.length c] 24)) (.bool true) (.slice A' ys.length c')
  rw[World.size_alloc]at h
  rw[hW0];exact (h.alloc _).alloc _
 have tQ:Zat W0 (w.heap.size+1+1) (.bool false) (.slice none 0 0):=by
  have h:=Zat.new ((w.alloc (.cells #[.bool true,.slice A xs.length c] 24)).alloc (.cells #[.bool true,.slice A' ys.length c'] 24)) (.bool false) (.slice none 0 0)
  rw[World.size_alloc,World.size_alloc]at h
  rw[hW0];exact h.alloc _
 have tR:Zat W0 (w.heap.size+1+1+1) (.bool false) (.slice none 0 0):=by
  have h:=Zat.new (((w.alloc (.cells #[.bool true,.slice A xs.length c] 24)).alloc (.cells #[.bool true,.slice A' ys.length c'] 24)).alloc (.cells #[.bool false,.slice none 0 0] 24)) (.bool false) (.slice none 0 0)
  rw[World.size_alloc,World.size_alloc,World.size_alloc]at h
  rw[hW0];exact h
 have q1:=tX.two.c1
 have q2:=tY.two.c1
 have HW0:=Hd hW0
 clear hW0
 go_enter Tryz.func101,Tryz.ntmps101
 go_wp2_with fail
 rw[<-HW0.out]
 go_quiet ((first|(go_at_call 94;with_reducible exact Calls.quiet_of_same (trim_q (HX.out.to (hb.trans (bel_drewN (Below.refl _ _) _)))))|(go_at_call 94;with_reducible exact Calls.quiet_of_same (trim_q (HY.out.to (hb.trans (bel_drewN (Below.refl _ _) _)))))))
 rename_i nq
 have hb1:Below w.heap.size w (W0.drewN nq):=bel_drewN hb _
 have tX1:Two (W0.drewN nq) w.heap.size _ _:=tX.two.to (bel_drewN (Below.refl _ _) _)
 have tY1:Two (W0.drewN nq) (w.heap.size+1) _ _:=tY.two.to (bel_drewN (Below.refl _ _) _)
 have tQ1:Two (W0.drewN nq) (w.heap.size+1+1) _ _:=tQ.two.to (bel_drewN (Below.refl _ _) _)
 have tR1:Two (W0.drewN nq) (w.heap.size+1+1+1) _ _:=tR.two.to (bel_drewN (Below.refl _ _) _)
 generalize W0.drewN nq=W1 at hb1 tX1 tY1 tQ1 tR1 ⊢
 clear q1 q2 tX tY tQ tR hb HW0
 go_wp2_with fail
 refine (divide_all (HX.out.to hb1) (HY.out.to hb1) H0.out (by omega)).mono ?_
 rintro e w2 ⟨A1,c1,qs,A2,c2,rs,rfl,AQ',AR',vq,r4,hb2⟩
 have VQ:=Hd vq
 have r1:=AQ'.rd
 have r2:=AR'.rd
 have r3:=AR'.dg
 have r5:=AQ'.le
 have r6:=AQ'.cap
 have r7:=AR'.le
 have r8:=AR'.cap
 have r9:=AR'.small
 have dq:=AQ'.dg
 have hb3:=Bxb hb1 hb2
 have tX2:=tX1.to hb2
 have tY2:=tY1.to hb2
 have tQ2:=tQ1.to hb2
 have tR2:=tR1.to hb2
 have R4:=Hd r4
 have AR:=Hd (⟨r2,r3,r7,r8,r9⟩:Arg w2 A2 c2 rs)
 have R1:=Hd r1
 have AQ:=Hd AQ'
 clear AQ' AR' vq r1 r2 r4 hb1 hb2 tX1 tY1 tQ1 tR1
 have p1:=tX2.c0
 have p2:=tY2.c0
 have hrl:(trimL rs).length=0:=by
  rw[trimL_dig b32_one AR.out.dg,R4.out,HM.out];rfl
 have HT:=Hd (trim_l AR.out)
 rw[hrl]at HT
 clear hrl
 go_wp2_with fail
 refine HT.out.mono ?_
 rintro e w' ⟨rfl,rfl⟩
 have I1:=Hd (integer_l false R1.out dq r5 r6)
 rw[VQ.out]at I1
 obtain ⟨q,eq⟩:∃q:Int,Hid (zof false (val b32 xs / val b32 ys)=q):=⟨_,rfl⟩
 rw[eq.out]at I1
 go_wp2_with fail
 refine I1.out.mono ?_
 rintro e w5 ⟨A5,c5,rfl,s1,s2,s3,hb10⟩
 have hb11:=Bxb hb3 hb10
 have tQ5:=tQ2.to hb10
 have tR5:=tR2.to hb10
 have I2:=Hd (integer_l false (AR.out.rd.to hb10) r3 r7 r8)
 rw[R4.out]at I2
 obtain ⟨r,er⟩:∃r:Int,Hid (zof false (val b32 xs % val b32 ys)=r):=⟨_,rfl⟩
 rw[er.out]at I2
 have S1:=Hd s1
 clear s1 hb10 hb3 tQ2 tR2
 go_wp2_with fail
 refine I2.out.mono ?_
 rintro e w6 ⟨A6,c6,rfl,v1,v2,v3,hb12⟩
 have HB:=Hd (Bxb hb11 hb12)
 have TQ:=Hd (tQ5.to hb12)
 have TR:=Hd (tR5.to hb12)
 obtain ⟨g1,g2,g3,g4,g5⟩:=tQ5.to hb12
 obtain ⟨k1,k2,k3,k4,k5⟩:=tR5.to hb12
 have S3:=Hd (S1.out.to hb12)
 have V3:=Hd v1
 clear v1 hb12 hb11 tQ5 tR5 p1 p2
 go_wp2
 have tF:=TQ.out.set (.bool (decide (q<0))) (.slice A5 (dig b32 q.natAbs).length c5)
 have tG:=(TR.out.far (g':=w.heap.size+1+1) (by omega) (.bool (decide (q<0))) (.slice A5 (dig b32 q.natAbs).length c5)).set (.bool (decide (r<0))) (.slice A6 (dig b32 r.natAbs).length c6)
 have tH:=tF.far (g':=w.heap.size+1+1+1) (by omega) (.bool (decide (r<0))) (.slice A6 (dig b32 r.natAbs).length c6)
 refine bodyPost_ret (v:=.tuple #[.agg #[.bool (decide (q<0)),.slice A5 (dig b32 q.natAbs).length c5],.agg #[.bool (decide (r<0)),.slice A6 (dig b32 r.natAbs).length c6],.int .i64 0])
  (by simp[results,Tryz.f101,go_sem,tH.c0,tH.c1,tG.c0,tG.c1]) rfl ?_
 rw[eq.out,show (((val b32 xs % val b32 ys:Nat):Int))=r from er.out]
 exact dret_stored TQ.out TR.out (by omega) (by omega) (by omega) S3.out V3.out s2 s3 v2 v3 HB.out
theorem dx_tfn {A A':Option Addr}{c c':Nat}{xs ys:List Nat}{w:World}(hx:Arg w A c xs)(hy:Arg w A' c' ys)(hxl:xs.length<=4294967293)(h0:0<val b32 ys)(hm:0<val b32 xs % val b32 ys) :
  Calls Tryz.prog 101 #[.agg #[.bool true,.slice A xs.length c],.agg #[.bool false,.slice A' ys.length c']] w (DRet w (zof true (val b32 xs / val b32 ys+1)) ((val b32 ys-val b32 xs % val b32 ys:Nat):Int)):=by
 have HX:=Hd hx
 have HY:=Hd hy
 have H0:=Hd h0
 have HM:=Hd hm
 have hlen:((trimL ys).length=0)↔val b32 ys=0:=by
  rw[trimL_dig b32_one hy.dg]
  exact ⟨fun h=>(dig_nil b32_one).1 (List.eq_nil_of_length_eq_zero h),fun h=>by rw[h];rfl⟩
 have hq:((((trimL ys).length:Nat):Int)==0)=false:=by
  have:(trimL ys).length≠0:=fun h=>by have:=hlen.1 h;omega
  rw[beq_eq_false_iff_ne];omega
 clear hx hy h0 hlen hm
 obtain ⟨W0,hW0⟩:∃W0,W0=(((w.alloc (.cells #[.bool true,.slice A xs.length c] 24)).alloc (.cells #[.bool false,.slice A' ys.length c'] 24)).alloc (.cells #[.bool false,.slice none 0 0] 24)).alloc (.cells #[.bool false,.slice none 0 0] 24):=⟨_,rfl⟩
 have hb:Below w.heap.size w W0:=by rw[hW0];exact ((((Below.refl _ _).alloc (Nat.le_refl _) _).alloc (by simp) _).alloc (by simp;omega) _).alloc (by simp;omega) _
 have tX:Zat W0 w.heap.size (.bool true) (.slice A xs.length c):=by rw[hW0];exact (((Zat.new w _ _).alloc _).alloc _).alloc _
 have tY:Zat W0 (w.heap.size+1) (.bool false) (.slice A' ys.length c'):=by
  have h:=Zat.new (w.alloc (.cells #[.bool true,.slice A xs.length c] 24)) (.bool false) (.slice A' ys.length c')
  rw[World.size_alloc]at h
  rw[hW0];exact (h.alloc _).alloc _
 have tQ:Zat W0 (w.heap.size+1+1) (.bool false) (.slice none 0 0):=by
  have h:=Zat.new ((w.alloc (.cells #[.bool true,.slice A xs.length c] 24)).alloc (.cells #[.bool false,.slice A' ys.length c'] 24)) (.bool false) (.slice none 0 0)
  rw[World.size_alloc,World.size_alloc]at h
  rw[hW0];exact h.alloc _
 have tR:Zat W0 (w.heap.size+1+1+1) (.bool false) (.slice none 0 0):=by
  have h:=Zat.new (((w.alloc (.cells #[.bool true,.slice A xs.length c] 24)).alloc (.cells #[.bool false,.slice A' ys.length c'] 24)).alloc (.cells #[.bool false,.slice none 0 0] 24)) (.bool false) (.slice none 0 0)
  rw[World.size_alloc,World.size_alloc,World.size_alloc]at h
  rw[hW0];exact h
 have q1:=tX.two.c1
 have q2:=tY.two.c1
 have HW0:=Hd hW0
 clear hW0
 go_enter Tryz.func101,Tryz.ntmps101
 go_wp2_with fail
 rw[<-HW0.out]
 go_quiet ((first|(go_at_call 94;with_reducible exact Calls.quiet_of_same (trim_q (HX.out.to (hb.trans (bel_drewN (Below.refl _ _) _)))))|(go_at_call 94;with_reducible exact Calls.quiet_of_same (trim_q (HY.out.to (hb.trans (bel_drewN (Below.refl _ _) _)))))))
 rename_i nq
 have hb1:Below w.heap.size w (W0.drewN nq):=bel_drewN hb _
 have tX1:Two (W0.drewN nq) w.heap.size _ _:=tX.two.to (bel_drewN (Below.refl _ _) _)
 have tY1:Two (W0.drewN nq) (w.heap.size+1) _ _:=tY.two.to (bel_drewN (Below.refl _ _) _)
 have tQ1:Two (W0.drewN nq) (w.heap.size+1+1) _ _:=tQ.two.to (bel_drewN (Below.refl _ _) _)
 have tR1:Two (W0.drewN nq) (w.heap.size+1+1+1) _ _:=tR.two.to (bel_drewN (Below.refl _ _) _)
 generalize W0.drewN nq=W1 at hb1 tX1 tY1 tQ1 tR1 ⊢
 clear q1 q2 tX tY tQ tR hb HW0
 go_wp2_with fail
 refine (divide_all (HX.out.to hb1) (HY.out.to hb1) H0.out (by omega)).mono ?_
 rintro e w2 ⟨A1,c1,qs,A2,c2,rs,rfl,AQ',AR',vq,r4,hb2⟩
 have VQ:=Hd vq
 have r1:=AQ'.rd
 have r2:=AR'.rd
 have r3:=AR'.dg
 have r5:=AQ'.le
 have r6:=AQ'.cap
 have r7:=AR'.le
 have r8:=AR'.cap
 have r9:=AR'.small
 have dq:=AQ'.dg
 have hb3:=Bxb hb1 hb2
 have tX2:=tX1.to hb2
 have tY2:=tY1.to hb2
 have tQ2:=tQ1.to hb2
 have tR2:=tR1.to hb2
 have R4:=Hd r4
 have AR:=Hd (⟨r2,r3,r7,r8,r9⟩:Arg w2 A2 c2 rs)
 have R1:=Hd r1
 have AQ:=Hd AQ'
 clear AQ' AR' vq r1 r2 r4 hb1 hb2 tX1 tY1 tQ1 tR1
 have p1:=tX2.c0
 have p2:=tY2.c0
 have hrl:(0:Int)<((trimL rs).length:Nat):=by
  rcases Nat.eq_zero_or_pos (trimL rs).length with h|h
  .exfalso
   rw[trimL_dig b32_one AR.out.dg,R4.out]at h
   have h1:=(dig_nil b32_one).1 (List.eq_nil_of_length_eq_zero h)
   have h2:=HM.out
   omega
  .omega
 have HT:=Hd (trim_l AR.out)
 go_wp2_with fail
 refine HT.out.mono ?_
 rintro e w' ⟨rfl,rfl⟩
 clear HT
 have ho:Arg (w2.alloc (.cells #[.int .u32 1] 82)) (some ⟨w2.heap.size,0,none⟩) 1 [1]:=by
  have h:=Rd.new .u32 w2 82 [1]
  exact ⟨by simpa [ints]using h,Dg.one (by decide),by simp,by omega,by simp⟩
 have hb4:Below w2.heap.size w2 (w2.alloc (.cells #[.int .u32 1] 82)):=(Below.refl _ _).alloc (Nat.le_refl _) _
 have C1:=Hd (combine_l (q:=1) (.inl rfl) (AQ.out.to hb4) ho (by omega))
 have HB4:=Hd hb4
 clear ho hb4
 go_wp2_with fail
 refine C1.out.mono ?_
 rintro e w3 ⟨A3,c3,zs,rfl,u1,u2,u3,u4,u5,u6,hb5⟩
 rw[VQ.out]at u6
 have hb6:=HB4.out.trans (hb5.mono HB4.out.size)
 have hb7:=Bxb hb3 hb6
 have tX3:=tX2.to hb6
 have tY3:=tY2.to hb6
 have tQ3:=tQ2.to hb6
 have tR3:=tR2.to hb6
 have hmod:=Nat.mod_lt (val b32 xs) H0.out
 have C2:=Hd (combine_l (q:=-1) (.inr rfl) (HY.out.to hb7).trim (AR.out.to hb6) (by rw[val_trimL,R4.out];omega))
 have V1:Hid (val b32 zs=val b32 xs / val b32 ys+1):=by
  show _=_
  have h1:val b32 [1]=1:=rfl
  rw[h1]at u6
  omega
 have U1:=Hd u1
 clear u1 u6 hb5 hb6 hb3 tX2 tY2 tQ2 tR2 p1 p2 hmod
 go_wp2_with fail
 refine C2.out.mono ?_
 rintro e w4 ⟨A4,c4,ms,rfl,m1,m2,m3,m4,m5,m6,hb8⟩
 have V2:Hid (val b32 ms=val b32 ys-val b32 xs % val b32 ys):=by
  show _=_
  rw[val_trimL,R4.out]at m6
  have:=Nat.mod_lt (val b32 xs) H0.out
  omega
 have hb9:=Bxb hb7 hb8
 have tX4:=tX3.to hb8
 have tY4:=tY3.to hb8
 have tQ4:=tQ3.to hb8
 have tR4:=tR3.to hb8
 have p1:=tX4.c0
 have p2:=tY4.c0
 have I1:=Hd (integer_l true (U1.out.to hb8) u4 u2 u3)
 rw[V1.out]at I1
 have M1:=Hd m1
 clear m1 m6 hb7 hb8 tX3 tY3 tQ3 tR3
 obtain ⟨q,eq⟩:∃q:Int,Hid (zof true (val b32 xs / val b32 ys+1)=q):=⟨_,rfl⟩
 rw[eq.out]at I1
 go_wp2_with fail
 refine I1.out.mono ?_
 rintro e w5 ⟨A5,c5,rfl,s1,s2,s3,hb10⟩
 have hb11:=Bxb hb9 hb10
 have tQ5:=tQ4.to hb10
 have tR5:=tR4.to hb10
 have I2:=Hd (integer_l false (M1.out.to hb10) m4 m2 m3)
 rw[V2.out]at I2
 obtain ⟨r,er⟩:∃r:Int,Hid (zof false (val b32 ys-val b32 xs % val b32 ys)=r):=⟨_,rfl⟩
 rw[er.out]at I2
 have S1:=Hd s1
 clear s1 hb10 hb9 tQ4 tR4
 go_wp2_with fail
 refine I2.out.mono ?_
 rintro e w6 ⟨A6,c6,rfl,v1,v2,v3,hb12⟩
 have HB:=Hd (Bxb hb11 hb12)
 have TQ:=Hd (tQ5.to hb12)
 have TR:=Hd (tR5.to hb12)
 obtain ⟨g1,g2,g3,g4,g5⟩:=tQ5.to hb12
 obtain ⟨k1,k2,k3,k4,k5⟩:=tR5.to hb12
 have S3:=Hd (S1.out.to hb12)
 have V3:=Hd v1
 clear v1 hb12 hb11 tQ5 tR5 p1 p2
 go_wp2
 have tF:=TQ.out.set (.bool (decide (q<0))) (.slice A5 (dig b32 q.natAbs).length c5)
 have tG:=(TR.out.far (g':=w.heap.size+1+1) (by omega) (.bool (decide (q<0))) (.slice A5 (dig b32 q.natAbs).length c5)).set (.bool (decide (r<0))) (.slice A6 (dig b32 r.natAbs).length c6)
 have tH:=tF.far (g':=w.heap.size+1+1+1) (by omega) (.bool (decide (r<0))) (.slice A6 (dig b32 r.natAbs).length c6)
 refine bodyPost_ret (v:=.tuple #[.agg #[.bool (decide (q<0)),.slice A5 (dig b32 q.natAbs).length c5],.agg #[.bool (decide (r<0)),.slice A6 (dig b32 r.natAbs).length c6],.int .i64 0])
  (by simp[results,Tryz.f101,go_sem,tH.c0,tH.c1,tG.c0,tG.c1]) rfl ?_
 rw[eq.out,show (((val b32 ys-val b32 xs % val b32 ys:Nat):Int))=r from er.out]
 exact dret_stored TQ.out TR.out (by omega) (by omega) (by omega) S3.out V3.out s2 s3 v2 v3 HB.out
theorem dx_ttn {A A':Option Addr}{c c':Nat}{xs ys:List Nat}{w:World}(hx:Arg w A c xs)(hy:Arg w A' c' ys)(hxl:xs.length<=4294967293)(h0:0<val b32 ys)(hm:0<val b32 xs % val b32 ys) :
  Calls Tryz.prog 101 #[.agg #[.bool true,.slice A xs.length c],.agg #[.bool true,.slice A' ys.length c']] w (DRet w (zof false (val b32 xs / val b32 ys+1)) ((val b32 ys-val b32 xs % val b32 ys:Nat):Int)):=by
 have HX:=Hd hx
 have HY:=Hd hy
 have H0:=Hd h0
 have HM:=Hd hm
 have hlen:((trimL ys).length=0)↔val b32 ys=0:=by
  rw[trimL_dig b32_one hy.dg]
  exact ⟨fun h=>(dig_nil b32_one).1 (List.eq_nil_of_length_eq_zero h),fun h=>by rw[h];rfl⟩
 have hq:((((trimL ys).length:Nat):Int)==0)=false:=by
  have:(trimL ys).length≠0:=fun h=>by have:=hlen.1 h;omega
  rw[beq_eq_false_iff_ne];omega
 clear hx hy h0 hlen hm
 obtain ⟨W0,hW0⟩:∃W0,W0=(((w.alloc (.cells #[.bool true,.slice A xs.length c] 24)).alloc (.cells #[.bool true,.slice A' ys.length c'] 24)).alloc (.cells #[.bool false,.slice none 0 0] 24)).alloc (.cells #[.bool false,.slice none 0 0] 24):=⟨_,rfl⟩
 have hb:Below w.heap.size w W0:=by rw[hW0];exact ((((Below.refl _ _).alloc (Nat.le_refl _) _).alloc (by simp) _).alloc (by simp;omega) _).alloc (by simp;omega) _
 have tX:Zat W0 w.heap.size (.bool true) (.slice A xs.length c):=by rw[hW0];exact (((Zat.new w _ _).alloc _).alloc _).alloc _
 have tY:Zat W0 (w.heap.size+1) (.bool true) (.slice A' ys.length c'):=by
  have h:=Zat.new (w.alloc (.cells #[.bool true,.slice A xs.length c] 24)) (.bool true) (.slice A' ys.length c')
  rw[World.size_alloc]at h
  rw[hW0];exact (h.alloc _).alloc _
 have tQ:Zat W0 (w.heap.size+1+1) (.bool false) (.slice none 0 0):=by
  have h:=Zat.new ((w.alloc (.cells #[.bool true,.slice A xs.length c] 24)).alloc (.cells #[.bool true,.slice A' ys.length c'] 24)) (.bool false) (.slice none 0 0)
  rw[World.size_alloc,World.size_alloc]at h
  rw[hW0];exact h.alloc _
 have tR:Zat W0 (w.heap.size+1+1+1) (.bool false) (.slice none 0 0):=by
  have h:=Zat.new (((w.alloc (.cells #[.bool true,.slice A xs.length c] 24)).alloc (.cells #[.bool true,.slice A' ys.length c'] 24)).alloc (.cells #[.bool false,.slice none 0 0] 24)) (.bool false) (.slice none 0 0)
  rw[World.size_alloc,World.size_alloc,World.size_alloc]at h
  rw[hW0];exact h
 have q1:=tX.two.c1
 have q2:=tY.two.c1
 have HW0:=Hd hW0
 clear hW0
 go_enter Tryz.func101,Tryz.ntmps101
 go_wp2_with fail
 rw[<-HW0.out]
 go_quiet ((first|(go_at_call 94;with_reducible exact Calls.quiet_of_same (trim_q (HX.out.to (hb.trans (bel_drewN (Below.refl _ _) _)))))|(go_at_call 94;with_reducible exact Calls.quiet_of_same (trim_q (HY.out.to (hb.trans (bel_drewN (Below.refl _ _) _)))))))
 rename_i nq
 have hb1:Below w.heap.size w (W0.drewN nq):=bel_drewN hb _
 have tX1:Two (W0.drewN nq) w.heap.size _ _:=tX.two.to (bel_drewN (Below.refl _ _) _)
 have tY1:Two (W0.drewN nq) (w.heap.size+1) _ _:=tY.two.to (bel_drewN (Below.refl _ _) _)
 have tQ1:Two (W0.drewN nq) (w.heap.size+1+1) _ _:=tQ.two.to (bel_drewN (Below.refl _ _) _)
 have tR1:Two (W0.drewN nq) (w.heap.size+1+1+1) _ _:=tR.two.to (bel_drewN (Below.refl _ _) _)
 generalize W0.drewN nq=W1 at hb1 tX1 tY1 tQ1 tR1 ⊢
 clear q1 q2 tX tY tQ tR hb HW0
 go_wp2_with fail
 refine (divide_all (HX.out.to hb1) (HY.out.to hb1) H0.out (by omega)).mono ?_
 rintro e w2 ⟨A1,c1,qs,A2,c2,rs,rfl,AQ',AR',vq,r4,hb2⟩
 have VQ:=Hd vq
 have r1:=AQ'.rd
 have r2:=AR'.rd
 have r3:=AR'.dg
 have r5:=AQ'.le
 have r6:=AQ'.cap
 have r7:=AR'.le
 have r8:=AR'.cap
 have r9:=AR'.small
 have dq:=AQ'.dg
 have hb3:=Bxb hb1 hb2
 have tX2:=tX1.to hb2
 have tY2:=tY1.to hb2
 have tQ2:=tQ1.to hb2
 have tR2:=tR1.to hb2
 have R4:=Hd r4
 have AR:=Hd (⟨r2,r3,r7,r8,r9⟩:Arg w2 A2 c2 rs)
 have R1:=Hd r1
 have AQ:=Hd AQ'
 clear AQ' AR' vq r1 r2 r4 hb1 hb2 tX1 tY1 tQ1 tR1
 have p1:=tX2.c0
 have p2:=tY2.c0
 have hrl:(0:Int)<((trimL rs).length:Nat):=by
  rcases Nat.eq_zero_or_pos (trimL rs).length with h|h
  .exfalso
   rw[trimL_dig b32_one AR.out.dg,R4.out]at h
   have h1:=(dig_nil b32_one).1 (List.eq_nil_of_length_eq_zero h)
   have h2:=HM.out
   omega
  .omega
 have HT:=Hd (trim_l AR.out)
 go_wp2_with fail
 refine HT.out.mono ?_
 rintro e w' ⟨rfl,rfl⟩
 clear HT
 have ho:Arg (w2.alloc (.cells #[.int .u32 1] 82)) (some ⟨w2.heap.size,0,none⟩) 1 [1]:=by
  have h:=Rd.new .u32 w2 82 [1]
  exact ⟨by simpa [ints]using h,Dg.one (by decide),by simp,by omega,by simp⟩
 have hb4:Below w2.heap.size w2 (w2.alloc (.cells #[.int .u32 1] 82)):=(Below.refl _ _).alloc (Nat.le_refl _) _
 have C1:=Hd (combine_l (q:=1) (.inl rfl) (AQ.out.to hb4) ho (by omega))
 have HB4:=Hd hb4
 clear ho hb4
 go_wp2_with fail
 refine C1.out.mono ?_
 rintro e w3 ⟨A3,c3,zs,rfl,u1,u2,u3,u4,u5,u6,hb5⟩
 rw[VQ.out]at u6
 have hb6:=HB4.out.trans (hb5.mono HB4.out.size)
 have hb7:=Bxb hb3 hb6
 have tX3:=tX2.to hb6
 have tY3:=tY2.to hb6
 have tQ3:=tQ2.to hb6
 have tR3:=tR2.to hb6
 have hmod:=Nat.mod_lt (val b32 xs) H0.out
 have C2:=Hd (combine_l (q:=-1) (.inr rfl) (HY.out.to hb7).trim (AR.out.to hb6) (by rw[val_trimL,R4.out];omega))
 have V1:Hid (val b32 zs=val b32 xs / val b32 ys+1):=by
  show _=_
  have h1:val b32 [1]=1:=rfl
  rw[h1]at u6
  omega
 have U1:=Hd u1
 clear u1 u6 hb5 hb6 hb3 tX2 tY2 tQ2 tR2 p1 p2 hmod
 go_wp2_with fail
 refine C2.out.mono ?_
 rintro e w4 ⟨A4,c4,ms,rfl,m1,m2,m3,m4,m5,m6,hb8⟩
 have V2:Hid (val b32 ms=val b32 ys-val b32 xs % val b32 ys):=by
  show _=_
  rw[val_trimL,R4.out]at m6
  have:=Nat.mod_lt (val b32 xs) H0.out
  omega
 have hb9:=Bxb hb7 hb8
 have tX4:=tX3.to hb8
 have tY4:=tY3.to hb8
 have tQ4:=tQ3.to hb8
 have tR4:=tR3.to hb8
 have p1:=tX4.c0
 have p2:=tY4.c0
 have I1:=Hd (integer_l false (U1.out.to hb8) u4 u2 u3)
 rw[V1.out]at I1
 have M1:=Hd m1
 clear m1 m6 hb7 hb8 tX3 tY3 tQ3 tR3
 obtain ⟨q,eq⟩:∃q:Int,Hid (zof false (val b32 xs / val b32 ys+1)=q):=⟨_,rfl⟩
 rw[eq.out]at I1
 go_wp2_with fail
 refine I1.out.mono ?_
 rintro e w5 ⟨A5,c5,rfl,s1,s2,s3,hb10⟩
 have hb11:=Bxb hb9 hb10
 have tQ5:=tQ4.to hb10
 have tR5:=tR4.to hb10
 have I2:=Hd (integer_l false (M1.out.to hb10) m4 m2 m3)
 rw[V2.out]at I2
 obtain ⟨r,er⟩:∃r:Int,Hid (zof false (val b32 ys-val b32 xs % val b32 ys)=r):=⟨_,rfl⟩
 rw[er.out]at I2
 have S1:=Hd s1
 clear s1 hb10 hb9 tQ4 tR4
 go_wp2_with fail
 refine I2.out.mono ?_
 rintro e w6 ⟨A6,c6,rfl,v1,v2,v3,hb12⟩
 have HB:=Hd (Bxb hb11 hb12)
 have TQ:=Hd (tQ5.to hb12)
 have TR:=Hd (tR5.to hb12)
 obtain ⟨g1,g2,g3,g4,g5⟩:=tQ5.to hb12
 obtain ⟨k1,k2,k3,k4,k5⟩:=tR5.to hb12
 have S3:=Hd (S1.out.to hb12)
 have V3:=Hd v1
 clear v1 hb12 hb11 tQ5 tR5 p1 p2
 go_wp2
 have tF:=TQ.out.set (.bool (decide (q<0))) (.slice A5 (dig b32 q.natAbs).length c5)
 have tG:=(TR.out.far (g':=w.heap.size+1+1) (by omega) (.bool (decide (q<0))) (.slice A5 (dig b32 q.natAbs).length c5)).set (.bool (decide (r<0))) (.slice A6 (dig b32 r.natAbs).length c6)
 have tH:=tF.far (g':=w.heap.size+1+1+1) (by omega) (.bool (decide (r<0))) (.slice A6 (dig b32 r.natAbs).length c6)
 refine bodyPost_ret (v:=.tuple #[.agg #[.bool (decide (q<0)),.slice A5 (dig b32 q.natAbs).length c5],.agg #[.bool (decide (r<0)),.slice A6 (dig b32 r.natAbs).length c6],.int .i64 0])
  (by simp[results,Tryz.f101,go_sem,tH.c0,tH.c1,tG.c0,tG.c1]) rfl ?_
 rw[eq.out,show (((val b32 ys-val b32 xs % val b32 ys:Nat):Int))=r from er.out]
 exact dret_stored TQ.out TR.out (by omega) (by omega) (by omega) S3.out V3.out s2 s3 v2 v3 HB.out
end Go.Proofs.YtiifpobhmnplaaaGreat
