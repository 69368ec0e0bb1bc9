/- Parts: 9. -/
import Derived.Test.YtglhdielkkhefaaGreatChecked
import Derived.Lib.Hide
import Derived.LoopIn
import Derived.LoopNIn
import Derived.OrdersIn
import Derived.Outline
import Derived.OwnWalkIn
import Derived.RangeFuncLeaves
import Derived.RangeFuncNested
import Derived.Shelf.Abstract
import Derived.TacticsInMore
import Derived.WalkKit
set_option linter.unusedVariables false
set_option linter.unusedSimpArgs false
set_option maxRecDepth 100000
set_option maxHeartbeats 40000000

namespace Go.Proofs.YtglhdielkkhefaaGreat
open Go.RowKit
theorem pqA {a:Type}(l:List a)(i:Nat)(x:a):l.toArray.setIfInBounds i x=(l.set i x).toArray:=List.setIfInBounds_toArray l i x
theorem pqB {a:Type}{x:a}{xs:List a}{y:a}:(x::xs).set 0 y=y::xs:=rfl
theorem pqC {a:Type}{x:a}{xs:List a}{i:Nat}{y:a}:(x::xs).set (i+1) y=x::xs.set i y:=rfl
theorem szA (w:World)(o:Obj):(w.alloc o).heap.size=w.heap.size+1:=World.size_alloc w o
theorem bRR {w:World}{o:Obj}:Below w.heap.size w (w.alloc o):=(Below.refl _ _).alloc (Nat.le_refl _) _
theorem Hd {p:Prop}(h:p):Hid p:=h
theorem Bxb {w V V':World}(h:Below w.heap.size w V)(b:Below V.heap.size V V'):Below w.heap.size w V':=h.trans (b.mono h.size)
theorem Hxb {w V V':World}(h:Hid (Below w.heap.size w V))(b:Below V.heap.size V V'):Hid (Below w.heap.size w V'):=Lib.hid (Bxb h.out b)
def Rd (kd:IntKind)(w:World)(B:Nat)(A:Option Addr)(xs:List Nat):Prop :=
 ∀(k:Nat) (h:k<xs.length),∃b o,A=some ⟨b,o,none⟩/\b<B/\w.cell? ⟨b,o+k,none⟩=some (.int kd (xs[k]:Nat))
def Dg (lim:Nat)(xs:List Nat):Prop:=∀d∈xs,d<lim
section
variable {kd : IntKind} {w w' : World} {B B' lim : Nat} {A : Option Addr} {xs ys : List Nat}
theorem Dg.at_ (h:Dg lim xs){k:Nat}(hk:k<xs.length):xs[k]<lim:=h _ (List.getElem_mem hk)
theorem Dg.take (h:Dg lim xs)(n:Nat):Dg lim (xs.take n):=fun d hd=>h d (List.mem_of_mem_take hd)
theorem Dg.app (h:Dg lim xs)(h':Dg lim ys):Dg lim (xs++ys):=fun d hd=>by
 rcases List.mem_append.1 hd with hd|hd
 .exact h d hd
 .exact h' d hd
theorem Dg.cons {d:Nat}(hd:d<lim)(h:Dg lim xs):Dg lim (d::xs):=fun e he=>by
 rcases List.mem_cons.1 he with rfl|he
 .exact hd
 .exact h e he
theorem Dg.nil : Dg lim []:=fun d hd=>by cases hd
theorem Dg.one {d:Nat}(hd:d<lim):Dg lim [d]:=Dg.cons hd Dg.nil
theorem Rd.at_ (h:Rd kd w B A xs){k:Nat}(hk:k<xs.length) :
  ∃b o,A=some ⟨b,o,none⟩/\b<B/\∀(j:Nat) (hj:j<xs.length),w.cell? ⟨b,o+j,none⟩=some (.int kd (xs[j]:Nat)):=by
 obtain ⟨b,o,rfl,hb,_⟩:=h k hk;refine ⟨b,o,rfl,hb,fun j hj=>?_⟩;obtain ⟨b',o',e,_,hc⟩:=h j hj;simp only[Option.some.injEq,Addr.mk.injEq,and_true]at e;obtain ⟨rfl,rfl⟩:=e;exact hc
theorem Rd.nil : Rd kd w B A []:=fun k hk=>by cases hk
theorem Rd.take (h:Rd kd w B A xs)(n:Nat):Rd kd w B A (xs.take n):=by
 intro k hk;have hk':k<xs.length:=by simp at hk;omega
 obtain ⟨b,o,rfl,hb,hc⟩:=h k hk';refine ⟨b,o,rfl,hb,by simpa using hc⟩
theorem Rd.below (h:Rd kd w B A xs)(hb:Below B w w'):Rd kd w' B A xs:=by
 intro k hk;obtain ⟨b,o,rfl,hB,hc⟩:=h k hk;exact ⟨b,o,rfl,hB,(hb.cell hB).trans hc⟩
theorem Rd.more (h:Rd kd w B A xs)(hB:B<=B'):Rd kd w B' A xs:=by
 intro k hk;obtain ⟨b,o,rfl,hb,hc⟩:=h k hk;exact ⟨b,o,rfl,by omega,hc⟩
theorem Rd.to (h:Rd kd w w.heap.size A xs)(hb:Below w.heap.size w w'):Rd kd w' w'.heap.size A xs:=(h.below hb).more hb.size
def ints (kd:IntKind)(xs:List Nat):List Value:=xs.map fun n=>.int kd (n:Nat)
theorem Rd.of_own {base:Nat}{e:TypeId}{n c:Nat}(h:w.ownsRow base e 1 (.slice A n c) n (ints kd xs))(hB:w.heap.size<=B):Rd kd w B A xs:=by
 intro k hk;have hn:n=xs.length:=by have:=h.1;simp[ints]at this;omega
 rcases h.2 with ⟨_,h0⟩|⟨g,cap,cur,hv,_,hg,_,_,_,hcur⟩
 .omega
 .injection hv with hA
  subst hA
  have hlt:g<w.heap.size:=by
   rcases Nat.lt_or_ge g w.heap.size with hlt|hge
   .exact hlt
   .rw[Array.getElem?_eq_none hge]at hg;cases hg
  refine ⟨g,0,rfl,by omega,?_⟩;have h2:=congrArg (fun l=>l[k]?) hcur;simp only[ints,List.getElem?_map,List.getElem?_eq_getElem hk,Option.map_some]at h2;rw[List.getElem?_take,if_pos (by omega)]at h2;simp only[World.cell?,hg,Nat.zero_add]
  simpa using h2
end
def trimN : List Nat->Nat
 | []=>0
 | d::r=>if trimN r=0 then (if d=0 then 0 else 1) else trimN r+1
theorem trimN_le (xs:List Nat):trimN xs<=xs.length:=by
 induction xs with
 | nil=>simp[trimN]
 | cons d r ih=>simp only[trimN,List.length_cons];split<;>(try split)<;>omega
theorem trimN_snoc_zero (xs:List Nat):trimN (xs++[0])=trimN xs:=by
 induction xs with
 | nil=>simp[trimN]
 | cons d r ih=>simp[trimN,ih]
theorem trimN_snoc (xs:List Nat)(d:Nat)(hd:d≠0):trimN (xs++[d])=xs.length+1:=by
 induction xs with
 | nil=>simp[trimN,hd]
 | cons e r ih=>simp[trimN,ih]
theorem take_snoc {α:Type}(xs:List α)(k:Nat)(h:k<xs.length):xs.take (k+1)=xs.take k++[xs[k]]:=by
 rw[List.take_succ_eq_append_getElem h]
theorem trimN_step_zero (xs:List Nat)(k:Nat)(h:k<xs.length)(hz:xs[k]=0):trimN (xs.take (k+1))=trimN (xs.take k):=by
 rw[take_snoc xs k h,hz,trimN_snoc_zero]
theorem trimN_step (xs:List Nat)(k:Nat)(h:k<xs.length)(hz:xs[k]≠0):trimN (xs.take (k+1))=k+1:=by
 rw[take_snoc xs k h,trimN_snoc _ _ hz];simp;omega
def trimL (xs:List Nat):List Nat:=xs.take (trimN xs)
theorem trimL_length (xs:List Nat):(trimL xs).length=trimN xs:=by
 have:=trimN_le xs;simp[trimL];omega
end Go.Proofs.YtglhdielkkhefaaGreat

namespace Go.Proofs.YtglhdielkkhefaaGreat
open Go.RowKit
def Gives (P:Program)(g:Nat)(lb:Array Value)(N:Nat)(enc:Nat->Array Value)(Keep:Nat->World->World->Prop)(W:World):Prop :=
 ∀(l:Nat) (J Jx:Nat->World->Prop),
  (∀k V,k<N->J k V->YieldAt Fence.wide 1 P l (enc k) V fun e V' =>
   (e=.returned (.bool true)/\J (k+1) V'/\Keep k V V')∨(e=.returned (.bool false)/\Jx k V')) ->
  J 0 W ->
  CallsIn Fence.wide 2 P g (#[.func (.yield l) #[] #[]]++lb) W fun e V=>(∃v,e=.returned v)/\(J N V∨∃k,k<N/\Jx k V)
def leftBy (B:Nat)(Keep:World->World->Prop)(I:World->Prop)(Ix:Code->World->Prop)(W:World):Exit->Act->World->Prop
 | .normal,_,V=>KeepsFrom B W V/\Keep W V/\I V
 | .ret,_,V=>KeepsFrom B W V/\Ix .ret V
 | .exit id,_,V=>KeepsFrom B W V/\Ix (.exit id) V
 | .goto t,_,V=>KeepsFrom B W V/\Ix (.goto t) V
 | .panic _,_,_=>False
 | .outgrown,_,_=>False
theorem wp_rounds {P:Program}{g:Operand}{ps:Array Tmp}{assign body:Code}{Q:Exit->Act->World->Prop}{a:Act}{w:World}
  {gf:Nat} {lb:Array Value} (hg:a.eval g=.func (.func gf) #[] lb) (eg:∀args v,(callFunc gf args).run P v=.ok (.enter gf args) v)
  {N:Nat} {enc:Nat->Array Value} {Keep:Nat->World->World->Prop} (hseq:∀W,Below w.heap.size w W->Gives P gf lb N enc Keep W)
  (hkeep:∀k A B o o',w.heap.size+1<A.heap.size->Keep k (A.putObj (w.heap.size+1) o) B->Keep k A (B.putObj (w.heap.size+1) o'))
  (hps:∀k,(enc k).size=ps.size)
  (I:Nat->World->Prop) (Ix:Code->Nat->World->Prop) (hI:OwnFrom w.heap.size I) (hIx:∀c,OwnFrom w.heap.size (Ix c)) (h0:I 0 w) (a₁:Nat->Act)
  (hassign:∀(l k:Nat) (W:World) (K:Act->World->Prop),K (a₁ k) W ->
   assign.wpIn (Fence.wide.inRound l) 1 P (Exit.then K (fun _ _ _=>False)) { tmps:=(ps.zip (enc k)).foldl (fun t (p,v)=>t.setIfInBounds p v) a.tmps,defers:=[] } W)
  (hbody:∀(l k:Nat) (W:World),w.heap.size+1<W.heap.size->I k W->k<N->body.wpIn (Fence.wide.inRound l) 1 P (leftBy w.heap.size (Keep k) (I (k+1)) (fun c=>Ix c k) W) (a₁ k) W)
  (hdone:∀W,I N W->W.heap[w.heap.size]?=some (.deferred (some []))->Q .normal { a with defers:={ target:=.collected w.heap.size,args:=#[] }::a.defers } W)
  (hstop:∀(c:Code) (k:Nat) (W:World),k<N->Ix c k W->W.heap[w.heap.size]?=some (.deferred (some [])) ->
   c.wpIn Fence.wide 3 P Q { a with defers:={ target:=.collected w.heap.size,args:=#[] }::a.defers } W) :
  (Code.rangeFunc g ps assign body).wpIn Fence.wide 3 P Q a w:=by
 refine wpIn_rangeFunc fun fn hfn=>?_
 obtain ⟨rec,hrec⟩:∃rec:LoopState->Option Code->Loop,rec=fun s p=>{ state:=s,pending:=p,fn,tmps:=a.tmps,params:=ps,assign,body,defers:=w.heap.size }:=⟨_,rfl⟩
 obtain ⟨W1,hW1⟩:∃W1,W1=(w.alloc (.deferred (some []))).alloc (.loop (rec .ready none)):=⟨_,rfl⟩
 have hl1:W1.heap[w.heap.size+1]?=some (.loop (rec .ready none)):=by
  have h:=World.alloc_heap_new (w.alloc (.deferred (some []))) (.loop (rec .ready none));rw[szA]at h;rw[hW1];exact h
 have hd1:W1.heap[w.heap.size]?=some (.deferred (some [])):=by
  rw[hW1];exact (Below.heap_alloc _ _ _ (by simp)).trans (World.alloc_heap_new w _)
 have hb1:Below w.heap.size w W1:=by rw[hW1];exact ((Below.refl _ w).alloc (Nat.le_refl _) _).alloc (by simp) _
 refine ⟨w.heap.size+1,[{ target:=.collected w.heap.size,args:=#[] }],W1,{ target:=.fn (.func gf) lb,args:=#[.func (.yield (w.heap.size+1)) #[] #[]] },W1,gf,
  #[.func (.yield (w.heap.size+1)) #[] #[]]++lb,W1,?_,?_,fun _ _=>trivial,?_,fun h=>by simp[Fence.wide]at h,?_⟩
 .rw[hW1,hrec];exact run_enterLoop_outer _ _ _ _ _
 .simp only[resolve,hg];simp[go_sem]
 .simp[invoke,go_sem,eg]
 refine (hseq W1 hb1 (w.heap.size+1)
  (fun k V=>I k V/\V.heap[w.heap.size+1]?=some (.loop (rec .ready none))/\V.heap[w.heap.size]?=some (.deferred (some [])))
  (fun k V=>∃c,Ix c k V/\V.heap[w.heap.size+1]?=some (.loop (rec .done (some c)))/\V.heap[w.heap.size]?=some (.deferred (some [])))
  ?_ ⟨by rw[hW1];exact hI.alloc _ (hI.alloc _ h0),hl1,hd1⟩).mono ?_
 .rintro k V hk ⟨hi,hl,hd⟩;have hlt:w.heap.size+1<V.heap.size:=(Array.getElem?_eq_some_iff.1 hl).1;have hy:=run_yield (P:=P) (args:=enc k) hl (by rw[hrec];exact hps k);rw[hrec]at hy;refine ⟨fn,_,assign,body,hy,roundIn_of_wpIn hfn (hassign _ k V _ ?_)⟩;clear hy;refine ⟨_,run_beginRound hl (by rw[hrec]),?_⟩;have hl2:=World.putObj_heap_same (w:=V) (o:=.loop { rec .ready none with state:=.busy }) hlt;have hd2:(V.putObj (w.heap.size+1) (.loop { rec .ready none with state:=.busy })).heap[w.heap.size]?=some (.deferred (some [])):=(World.putObj_heap_other (by omega)).trans hd;have hlt2:w.heap.size+1<(V.putObj (w.heap.size+1) (.loop { rec .ready none with state:=.busy })).heap.size:=(Array.getElem?_eq_some_iff.1 hl2).1;refine wpIn_mono (hbody _ k _ hlt2 (hI.putObj _ hi (by omega) hl rfl) hk) fun e a3 W3 hp=>?_
  have fin:∀(jump:Option Code),KeepsFrom w.heap.size (V.putObj (w.heap.size+1) (.loop { rec .ready none with state:=.busy })) W3 ->
    W3.heap[w.heap.size+1]?=some (.loop { rec .ready none with state:=.busy }) /\
    (Instr.endRound (w.heap.size+1) jump).run P W3=.ok (.bool jump.isNone) (W3.putObj (w.heap.size+1) (.loop (rec (if jump.isNone then .ready else .done) jump))) /\
    (W3.putObj (w.heap.size+1) (.loop (rec (if jump.isNone then .ready else .done) jump))).heap[w.heap.size+1]?=some (.loop (rec (if jump.isNone then .ready else .done) jump)) /\
    (W3.putObj (w.heap.size+1) (.loop (rec (if jump.isNone then .ready else .done) jump))).heap[w.heap.size]?=some (.deferred (some [])):=by
   intro jump hkf;have hl3:=hkf.same _ _ (by omega) hl2 rfl;have hd3:=hkf.same _ _ (Nat.le_refl _) hd2 rfl;refine ⟨hl3,?_,World.putObj_heap_same (Array.getElem?_eq_some_iff.1 hl3).1,(World.putObj_heap_other (by omega)).trans hd3⟩;have h:=run_endRound (P:=P) jump hl3;rw[hrec]at h ⊢;exact h
  match e,hp with
  | .normal,⟨hkf,hkp,hi3⟩ =>
   obtain ⟨hl3,hr,hl4,hd4⟩:=fin none hkf;exact ⟨_,_,hr,.inl ⟨rfl,⟨hI.putObj _ hi3 (by omega) hl3 rfl,hl4,hd4⟩,hkeep _ _ _ _ _ hlt hkp⟩⟩
  | .ret,⟨hkf,hi3⟩ =>
   obtain ⟨hl3,hr,hl4,hd4⟩:=fin (some .ret) hkf;exact ⟨_,_,hr,.inr ⟨rfl,.ret,(hIx _).putObj _ hi3 (by omega) hl3 rfl,hl4,hd4⟩⟩
  | .exit id,⟨hkf,hi3⟩ =>
   obtain ⟨hl3,hr,hl4,hd4⟩:=fin (some (.exit id)) hkf;exact ⟨_,_,hr,.inr ⟨rfl,.exit id,(hIx _).putObj _ hi3 (by omega) hl3 rfl,hl4,hd4⟩⟩
  | .goto t,⟨hkf,hi3⟩ =>
   obtain ⟨hl3,hr,hl4,hd4⟩:=fin (some (.goto t)) hkf;exact ⟨_,_,hr,.inr ⟨rfl,.goto t,(hIx _).putObj _ hi3 (by omega) hl3 rfl,hl4,hd4⟩⟩
  | .panic _,hp=>exact hp.elim
  | .outgrown,hp=>exact hp.elim
 .rintro e W2 ⟨⟨v,rfl⟩,hjs⟩
  rcases hjs with ⟨hi,hl,hd⟩|⟨k,hk,c,hi,hl,hd⟩
  .have h:=run_endLoop (P:=P) hl (by rw[hrec];simp);rw[show (rec .ready none).pending=none from by rw[hrec]]at h;exact ⟨none,_,h,hdone _ (hI.putObj _ hi (by omega) hl rfl) ((World.putObj_heap_other (by omega)).trans hd)⟩
  .have h:=run_endLoop (P:=P) hl (by rw[hrec];simp);rw[show (rec .done (some c)).pending=some c from by rw[hrec]]at h;exact ⟨some c,_,h,hstop c k _ hk ((hIx c).putObj _ hi (by omega) hl rfl) ((World.putObj_heap_other (by omega)).trans hd)⟩
def noDefer (ops:Array Oper):Bool:=ops.all fun o=>match o.op with | .defer _=>false|_=>true
theorem noDefer_at {ops:Array Oper}(h:noDefer ops=true){i:Nat}{o:Oper}(hi:ops[i]?=some o):∀c,o.op≠.defer c:=by
 intro c hc;obtain ⟨hlt,rfl⟩:=Array.getElem?_eq_some_iff.1 hi;have:=(Array.all_eq_true.1 h) i hlt;rw[hc]at this;cases this
theorem anyIn_round {F:Fence}{n l:Nat}{P:Program}{md:Region.Mode}{ops:Array Oper}{Q:Exit->Act->World->Prop}(hnd:noDefer ops=true) :
  ∀(fuel:Nat) (listed:Array Bool) (a:Act) (w:World),wpAnyIn F n P md ops Q fuel listed a w->wpAnyIn (F.inRound l) n P md ops Q fuel listed a w
 | 0,_,_,_,h=>h
 | fuel+1,listed,a,w,h=>by
  refine ⟨h.1,fun i hi=>?_⟩;have h1:=h.2 i hi;unfold wpOpIn at h1 ⊢
  split
  .rename_i hn
   rw[hn]at h1;exact anyIn_round hnd fuel _ a w h1
  .rename_i o ho
   rw[ho]at h1;simp only at h1 ⊢;have hp:=noDefer_at hnd ho
   split
   .rename_i hw
    rw[if_pos hw]at h1;obtain ⟨h2,h3⟩:=h1;refine ⟨h2,?_⟩;rw[Oper.semAt_plain F _ _ hp]at h3;rw[Oper.semAt_plain (F.inRound l) _ _ hp];generalize (execOp a.eval o).run P w=r at h3 ⊢;have step:∀a' w',wpAnyIn F n P md ops Q fuel (listed.setIfInBounds i true) a' w'->wpAnyIn (F.inRound l) n P md ops Q fuel (listed.setIfInBounds i true) a' w':=fun a' w'=>anyIn_round hnd fuel _ a' w'
    match r,h3 with
    | .ok (.value v) w',h3=>exact step _ _ h3
    | .ok .skip w',h3=>exact step _ _ h3
    | .ok (.defer d) w',h3=>exact step _ _ h3
    | .ok (.enter f args) w',h3 =>
     exact ⟨h3.1,CallsIn.mono h3.2 fun e w'' he=>by
      cases e with
      | returned v=>exact step _ _ he
      | panicked c=>exact he
      | outgrown=>exact he⟩
    | .ok (.row row args) w',h3=>exact ⟨h3.1,RowsIn.mono h3.2 fun v w'' he=>step _ _ he⟩
    | .ok (.round l' f tmps assign body) w',h3 =>
     exact ⟨h3.1,RoundIn.mono h3.2 fun e w'' he=>by
      cases e with
      | returned v=>exact step _ _ he
      | panicked c=>exact he
      | outgrown=>exact he⟩
    | .halt (.panic v) w',h3=>exact h3
   .rename_i hw
    rw[if_neg hw]at h1;exact ⟨h1.1,anyIn_round hnd fuel _ _ w h1.2⟩
theorem region_round {n l:Nat}{P:Program}{id:Nat}{ops:Array Oper}{Q:Exit->Act->World->Prop}{a:Act}{w:World}(hm:P.follows .mixedOrders=true)(hnd:noDefer ops=true)
  (h:wpAnyIn Fence.wide n P .any ops Q ops.size (Array.replicate ops.size false) a w.drew):(Code.region id ops true).wpIn (Fence.wide.inRound l) n P Q a w :=
 wpIn_region_any hm (anyIn_round hnd _ _ _ _ h)
theorem rdyI {F:Fence}{n:Nat}{P:Program}{md:Region.Mode}{ops:Array Oper}{Q:Exit->Act->World->Prop}{fuel:Nat}{listed:Array Bool}{a:Act}{w:World}{i:Nat}{o:Oper}(hr:Region.ready md ops listed=[i])(ho:ops[i]?=some o)
  (h:∀K':Act->World->Prop,(∀a w,wpAnyIn F n P md ops Q fuel (listed.setIfInBounds i true) a w->K' a w)->if Region.wanted o (yielded ops a.tmps)=true then Oper.wpIn F n P o a w K' Q else (∀f,o.about P w a.eval=some f->F.fn f)/\K' (a.put o.dst undef) w) :
  wpAnyIn F n P md ops Q (fuel+1) listed a w:=wpAnyIn_ready (rs:=[i]) hr (by simp) (AllReadyIn.cons ho h AllReadyIn.nil)
theorem step_append_in {F:Fence}{n:Nat}{P:Program}{w w':World}{ops:Array Oper}{o:Oper}{a:Act}{K:Act->World->Prop}{Q:Exit->Act->World->Prop}{E:Prop}{v u v':Value}
  (hgd:o.guard=none) (s x:Operand) (t:TypeId) (ho:o.op=.call { callee:=.builtin .append,args:=#[s,x],argTypes:=#[t,t] })
  (hs:a.eval s=v) (hx:a.eval x=u) (hrun:(Builtin.append_ #[t,t] o.type #[v,u]).run P w=.ok v' w') (h:K (a.put o.dst v') w') :
  if Region.wanted o (yielded ops a.tmps)=true then Oper.wpIn F n P o a w K Q else E:=by
 have hw:Region.wanted o (yielded ops a.tmps)=true:=by simp[Region.wanted,hgd]
 rw[if_pos hw];unfold Oper.wpIn;refine ⟨fun f hf=>?_,?_⟩
 .simp[Oper.about,ho,resolve,Target.leads,Sem.run_pure]at hf
 .rw[Oper.semAt_plain F _ _ (by rw[ho];intro c hc;cases hc)];simp only[execOp,ho,resolve,invoke,builtin,Sem.run_bind,Sem.run_pure,Result.andThen_ok,List.map_toArray,List.map_cons,List.map_nil,hs,hx,hrun];exact h
attribute [local go_sem] Oper.semAt_some
def KeepAt (S:Addr->Prop)(W V:World):Prop:=∀p,S p->V.cell? p=W.cell? p
theorem keepAt_round {w A B:World}{S:Addr->Prop}(hS:∀p,S p->p.block<w.heap.size)(o o':Obj)(h:KeepAt S (A.putObj (w.heap.size+1) o) B):KeepAt S A (B.putObj (w.heap.size+1) o'):=by
 intro p hp;have hb:=hS p hp;have h1:(B.putObj (w.heap.size+1) o').cell? p=B.cell? p:=World.cell?_of_block (World.putObj_heap_other (by omega));have h2:(A.putObj (w.heap.size+1) o).cell? p=A.cell? p:=World.cell?_of_block (World.putObj_heap_other (by omega));rw[h1,h p hp,h2]
def backS (Bs:Nat)(A:Option Addr)(m:Nat)(p:Addr):Prop:=p=⟨Bs,0,none⟩∨∃b o j,A=some ⟨b,o,none⟩/\j<m/\p=⟨b,o+j,none⟩
theorem backS_lt {kd:IntKind}{w:World}{Bs B S m:Nat}{A:Option Addr}{xs:List Nat}(h:Rd kd w B A xs)(hm:m<=xs.length)(h1:Bs<S)(h2:B<=S):∀p,backS Bs A m p->p.block<S:=by
 rintro p (rfl|⟨b,o,j,rfl,hj,rfl⟩)
 .exact h1
 .obtain ⟨b',o',e,hb,_⟩:=h 0 (by omega);simp only[Option.some.injEq,Addr.mk.injEq]at e
  show b<S
  omega
def backE (xs:List Nat)(k:Nat):Array Value:=#[.int .i64 ((xs.length-1-k:Nat):Int),.int .u32 ((xs.getD (xs.length-1-k) 0:Nat):Int)]
theorem backward_any (A:Option Addr)(n c:Nat)(w:World) :
  Calls Tryz.prog 169 #[.slice A n c] w fun e w'=>e=.returned (.func (.func 179) #[] #[.pointer (some ⟨w.heap.size,0,none⟩)])/\w'=w.alloc (.cells #[.slice A n c] 28):=by
 go_enter Tryz.func169,Tryz.ntmps169
 go_wp2
 go_ret
 exact ⟨rfl,rfl⟩
theorem backward_gives (Bs B c:Nat)(A:Option Addr)(xs:List Nat)(hlc:xs.length<=c)(hc:c<=9223372036854775807)(W:World)
  (hbox:W.cell? ⟨Bs,0,none⟩=some (.slice A xs.length c)) (hr:Rd .u32 W B A xs) :
  Gives Tryz.prog 179 #[.pointer (some ⟨Bs,0,none⟩)] xs.length (backE xs) (fun k=>KeepAt (backS Bs A (xs.length-1-k))) W:=by
 intro l J Jx hY h0;refine callsIn_of_wp Tryz.func179 rfl trivial ?_ rfl;simp only[Tryz.ntmps179,List.size_toArray,List.length_cons,List.length_nil,Nat.reduceAdd,Nat.reduceSub,Array.replicate_succ,Array.replicate_zero,List.push_toArray,List.append_toArray,List.nil_append,List.cons_append]
 gi_wp2
 gi_loopw [3] (fun i wr=>∃(k:Nat) (i':Int),i=.int .i64 i'/\k<=xs.length/\i'=(xs.length:Int)-1-k/\J k wr/\wr.cell? ⟨Bs,0,none⟩=some (.slice A xs.length c)/\Rd .u32 wr B A (xs.take (xs.length-k)))
  (fun i _=>(intOf i+1).toNat)
 case atStart=>exact ⟨0,_,rfl,Nat.zero_le _,by simp,h0,hbox,by simpa using hr⟩
 case round =>
  obtain ⟨k,i',rfl,hk,hi,hJ,hb,hrd⟩:=hrel
  by_cases hlt:k<xs.length
  .obtain ⟨m,hm⟩:∃m,m=xs.length-1-k:=⟨_,rfl⟩
   obtain rfl:i'=(m:Int):=by omega
   have hmn:m<xs.length:=by omega
   have hj:m<(xs.take (xs.length-k)).length:=by simp;omega
   obtain ⟨b,o,rfl,_,hcell⟩:=hrd.at_ hj;have hcj:=hcell _ hj;have hY1:=hY k wr hlt hJ;unfold backE at hY1;rw[<-hm]at hY1;have hx:(xs.take (xs.length-k))[m]=xs.getD m 0:=by simp[hmn]
   rw[hx]at hcj;obtain ⟨x,HX⟩:∃x,Hid (x=xs.getD m 0):=⟨_,rfl⟩
   rw[<-HX.out]at hcj hY1;have HM:=Hd hm;have HI:=Hd hi;clear hm hi hY hx hcell hr hbox;obtain ⟨fn,tmps,assign,body,hy,hR⟩:=hY1
   gi_wp2
   refine hR.mono ?_;rintro e W3 (⟨rfl,hJ3,hk3⟩|⟨rfl,hJx3⟩)
   .have hb3:=(hk3 _ (.inl rfl)).trans hb
    have hrd3:Rd .u32 W3 B (some ⟨b,o,none⟩) (xs.take (xs.length-(k+1))):=by
     intro j hj';have hjm:j<m:=by have:=HM.out;simp at hj';omega
     obtain ⟨b',o',e,hB,hc'⟩:=hrd j (by have:=HM.out;simp;omega);refine ⟨b',o',e,hB,?_⟩;rw[hk3 _ (.inr ⟨b',o',j,e,hjm,rfl⟩),hc'];simp
    gi_wp2
    go_roundw
    case rel=>exact ⟨k+1,_,rfl,by omega,by have:=HI.out;omega,hJ3,hb3,hrd3⟩
    case measure=>simp[intOf]
   .gi_wp2
    refine bodyPost_ret (results_none rfl _ _ _) rfl ?_;exact ⟨⟨_,rfl⟩,.inr ⟨k,hlt,hJx3⟩⟩
  .obtain rfl:k=xs.length:=by omega
   obtain rfl:i'=-1:=by omega
   clear hi
   gi_wp2
   go_end0
   exact ⟨⟨_,rfl⟩,.inl hJ⟩
end Go.Proofs.YtglhdielkkhefaaGreat

namespace Go.Proofs.YtglhdielkkhefaaGreat
def val (b:Nat):List Nat->Nat
  | []=>0
  | d::r=>d+b*val b r
def digF (b:Nat):Nat->Nat->List Nat
  | 0,_=>[]
  | f+1,n=>if n=0 then [] else n % b::digF b f (n / b)
def dig (b n:Nat):List Nat:=digF b n n
section
variable {b : Nat}
theorem val_append (xs ys:List Nat):val b (xs++ys)=val b xs+b ^ xs.length*val b ys:=by
  induction xs with
  | nil=>simp[val]
  | cons d r ih=>simp only[List.cons_append,val,ih,List.length_cons,Nat.mul_add,Nat.pow_succ];rw[Nat.mul_comm (b ^ r.length) b,Nat.mul_assoc];omega
theorem val_zeros (k:Nat):val b (List.replicate k 0)=0:=by
  induction k with
  | zero=>rfl
  | succ k ih=>simp[List.replicate_succ,val,ih]
theorem val_lt {xs:List Nat}(h:Dg b xs):val b xs<b ^ xs.length:=by
  induction xs with
  | nil=>simp[val]
  | cons d r ih =>
    have h1:=ih fun e he=>h e (List.mem_cons_of_mem _ he)
    have h2:=h d (by simp);simp only[val,List.length_cons,Nat.pow_succ];have h3:b*(val b r+1)<=b*b ^ r.length:=Nat.mul_le_mul_left _ h1;rw[Nat.mul_comm (b ^ r.length) b];rw[Nat.mul_add]at h3;omega
theorem trimL_cons (d:Nat)(r:List Nat):trimL (d::r)=if trimN r=0/\d=0 then [] else d::trimL r:=by
  unfold trimL;simp only[trimN]
  by_cases h:trimN r=0
  . by_cases hd:d=0<;>simp[h,hd]
  . simp[h]
theorem val_trimL (xs:List Nat):val b (trimL xs)=val b xs:=by
  induction xs with
  | nil=>simp[trimL,trimN,val]
  | cons d r ih =>
    rw[trimL_cons]
    split
    . rename_i h
      have h0:trimL r=[]:=by simp[trimL,h.1]
      rw[h0]at ih;simp[val,h.2,<-ih]
    . simp[val,ih]
theorem digF_zero (f:Nat):digF b f 0=[]:=by cases f<;>simp[digF]
theorem digF_eq (hb:1<b):∀(f g n:Nat),n<=f->n<=g->digF b f n=digF b g n
  | 0, g, n, h, _ => by obtain rfl : n = 0 := by omega
                        rw[digF_zero,digF_zero]
  | f + 1, 0, n, _, h => by obtain rfl : n = 0 := by omega
                            rw[digF_zero,digF_zero]
  | f+1,g+1,n,h,h'=>by
    simp only[digF]
    split
    . rfl
    . have h1:n / b<n:=Nat.div_lt_self (by omega) hb;rw[digF_eq hb f g (n / b) (by omega) (by omega)]
theorem dig_zero : dig b 0=[]:=rfl
theorem dig_pos (hb:1<b){n:Nat}(hn:n≠0):dig b n=n % b::dig b (n / b):=by
  unfold dig;obtain ⟨m,rfl⟩:∃m,n=m+1:=⟨n-1,by omega⟩
  simp only[digF,if_neg hn];have h1:(m+1) / b<m+1:=Nat.div_lt_self (by omega) hb;rw[digF_eq hb m ((m+1) / b) _ (by omega) (Nat.le_refl _)]
theorem dig_cons (hb:1<b){d n:Nat}(hd:d<b)(h:d≠0∨n≠0):dig b (d+b*n)=d::dig b n:=by
  have hne:d+b*n≠0:=by
    rcases h with h|h
    . omega
    . have:0<b*n:=Nat.mul_pos (by omega) (by omega);omega
  rw[dig_pos hb hne];have h1:(d+b*n) % b=d:=by rw[Nat.add_mul_mod_self_left];exact Nat.mod_eq_of_lt hd
  have h2:(d+b*n) / b=n:=by rw[Nat.add_mul_div_left _ _ (by omega),Nat.div_eq_of_lt hd];omega
  rw[h1,h2]
theorem trimN_zero' (hb:0<b){xs:List Nat} : trimN xs=0↔val b xs=0:=by
  induction xs with
  | nil=>simp[trimN,val]
  | cons d r ih =>
    simp only[trimN,val]
    by_cases h:trimN r=0
    . have:=ih.1 h
      by_cases hd:d=0<;>simp[h,hd,this]
    . have:val b r≠0:=fun e=>h (ih.2 e)
      have:0<b*val b r:=Nat.mul_pos hb (by omega);simp[h];omega
theorem trimL_dig (hb:1<b){xs:List Nat}(h:Dg b xs):trimL xs=dig b (val b xs):=by
  induction xs with
  | nil=>simp[trimL,val,dig_zero]
  | cons d r ih =>
    have h1:=ih fun e he=>h e (List.mem_cons_of_mem _ he)
    have h2:=h d (by simp);rw[trimL_cons]
    split
    . rename_i hz
      have:=(trimN_zero' (b:=b) (by omega)).1 hz.1;simp[val,this,hz.2,dig_zero]
    . rename_i hz
      rw[val,dig_cons hb h2,h1]
      by_cases hd:d=0
      . right
        intro hv;exact hz ⟨(trimN_zero' (b:=b) (by omega)).2 hv,hd⟩
      . exact .inl hd
theorem val_dig (hb:1<b)(n:Nat):val b (dig b n)=n:=by
  induction n using Nat.strongRecOn with
  | _ n ih =>
    by_cases h:n=0
    . subst h;rfl
    . rw[dig_pos hb h,val,ih _ (Nat.div_lt_self (by omega) hb)];exact Nat.mod_add_div n b
theorem Dg_dig (hb:1<b)(n:Nat):Dg b (dig b n):=by
  induction n using Nat.strongRecOn with
  | _ n ih =>
    by_cases h:n=0
    . subst h;exact fun d hd=>by cases hd
    . rw[dig_pos hb h];exact Dg.cons (Nat.mod_lt _ (by omega)) (ih _ (Nat.div_lt_self (by omega) hb))
theorem trimL_of_dig (hb:1<b)(n:Nat):trimL (dig b n)=dig b n:=by
  rw[trimL_dig hb (Dg_dig hb n),val_dig hb]
theorem trimN_of_dig (hb:1<b)(n:Nat):trimN (dig b n)=(dig b n).length:=by
  rw[<-trimL_length,trimL_of_dig hb]
theorem dig_length_le (hb:1<b){n k:Nat}(h:n<b ^ k):(dig b n).length<=k:=by
  induction k generalizing n with
  | zero => obtain rfl : n = 0 := by simpa using h
            simp[dig_zero]
  | succ k ih =>
    by_cases hn:n=0
    . subst hn;simp[dig_zero]
    . rw[dig_pos hb hn,List.length_cons];have:n / b<b ^ k:=by rw[Nat.div_lt_iff_lt_mul (by omega)];rw[Nat.pow_succ]at h;exact h
      have:=ih this;omega
theorem dig_nil (hb:1<b){n:Nat} : dig b n=[]↔n=0:=by
  constructor
  . intro h;rw[<-val_dig hb n,h];rfl
  . rintro rfl;rfl
theorem dig_inj (hb:1<b){m n:Nat}(h:dig b m=dig b n):m=n:=by
  rw[<-val_dig hb m,h,val_dig hb n]
theorem trimL_le (xs:List Nat):(trimL xs).length<=xs.length:=by rw[trimL_length];exact trimN_le xs
end
def cmpN (a b:Nat):Int:=if a<b then -1 else if b<a then 1 else 0
theorem cmpN_refl (a:Nat):cmpN a a=0:=by simp[cmpN]
theorem cmpN_lt {a b:Nat}(h:a<b):cmpN a b=-1:=by simp[cmpN,h]
theorem cmpN_gt {a b:Nat}(h:b<a):cmpN a b=1:=by simp[cmpN,h];omega
theorem val_lt_at {b P X Y d e T:Nat}(hX:X<P)(h:d<e):X+P*(d+b*T)<Y+P*(e+b*T):=by
  have h1:P*(d+b*T+1)<=P*(e+b*T):=Nat.mul_le_mul_left _ (by omega);rw[Nat.mul_add,Nat.mul_one]at h1;omega
theorem cmpN_at {b:Nat}(xs ys r:List Nat)(d e:Nat)(hx:Dg b xs)(hy:Dg b ys)(hl:xs.length=ys.length)(hne:d≠e) :
    cmpN (val b (xs++d::r)) (val b (ys++e::r))=cmpN d e:=by
  rw[val_append,val_append,val,val];have h1:=val_lt hx;have h2:=val_lt hy;rw[hl]at h1 ⊢
  rcases Nat.lt_or_gt_of_ne hne with h|h
  . rw[cmpN_lt h,cmpN_lt (val_lt_at h1 h)]
  . rw[cmpN_gt h,cmpN_gt (val_lt_at h2 h)]
theorem getD_over {xs:List Nat}{i:Nat}(h:xs.length<=i):xs.getD i 0=0:=by simp[h]
theorem getD_at {xs:List Nat}{i:Nat}(h:i<xs.length):xs.getD i 0=xs[i]:=by simp[h]
theorem cmpN_of {b:Nat}{xs ys:List Nat}{m:Nat}(hx:Dg b xs)(hy:Dg b ys)(hl:xs.length=ys.length)(hm:m<xs.length)
    (hs:∀j,m<j->j<xs.length->xs.getD j 0=ys.getD j 0) (hne:xs.getD m 0≠ys.getD m 0):cmpN (val b xs) (val b ys)=cmpN (xs.getD m 0) (ys.getD m 0):=by
  have hm':m<ys.length:=by omega
  have e1:xs=xs.take m++xs.getD m 0::xs.drop (m+1):=by
    rw[getD_at hm,<-List.drop_eq_getElem_cons hm,List.take_append_drop]
  have e2:ys=ys.take m++ys.getD m 0::xs.drop (m+1):=by
    have:xs.drop (m+1)=ys.drop (m+1):=by
      apply List.ext_getElem
      . simp[hl]
      . intro i h1 h2;simp only[List.length_drop]at h1 h2;have:=hs (m+1+i) (by omega) (by omega);rw[getD_at (by omega),getD_at (by omega)]at this
        simpa using this
    rw[this,getD_at hm',<-List.drop_eq_getElem_cons hm',List.take_append_drop]
  rw[congrArg (val b) e1,congrArg (val b) e2,cmpN_at _ _ _ _ _ (hx.take m) (hy.take m) (by simp;omega) hne]
theorem eq_of_getD {xs ys:List Nat}(hl:xs.length=ys.length)(hs:∀j,j<xs.length->xs.getD j 0=ys.getD j 0):xs=ys:=by
  apply List.ext_getElem hl;intro i h1 h2;have:=hs i h1
  rwa [getD_at h1,getD_at h2]at this
theorem cmpN_len {b:Nat}(hb:0<b){xs ys:List Nat}(hx:Dg b xs)(hy:Dg b ys)(tx:trimN xs=xs.length)(ty:trimN ys=ys.length)(hl:xs.length≠ys.length) :
    cmpN (val b xs) (val b ys)=cmpN xs.length ys.length:=by
  have low:∀{zs:List Nat},trimN zs=zs.length->zs≠[]->b ^ (zs.length-1)<=val b zs:=by
    intro zs
    induction zs with
    | nil=>intro _ h;exact absurd rfl h
    | cons d r ih =>
      intro ht _;simp only[trimN,List.length_cons]at ht
      by_cases h0:trimN r=0
      . rw[if_pos h0]at ht
        by_cases hd:d=0
        . rw[if_pos hd]at ht;omega
        . rw[if_neg hd]at ht;have:r.length=0:=by omega
          simp[this,val];omega
      . rw[if_neg h0]at ht;have hr:r≠[]:=by rintro rfl;simp[trimN]at h0
        have h1:=ih (by omega) hr;have h2:0<r.length:=List.length_pos_iff.2 hr;simp only[val,List.length_cons,Nat.add_sub_cancel]
        have h3:b ^ r.length=b*b ^ (r.length-1):=by
          rw[Nat.mul_comm,<-Nat.pow_succ];congr 1;omega
        have h4:=Nat.mul_le_mul_left b h1;omega
  have less:∀{us vs:List Nat},Dg b us->trimN vs=vs.length->us.length<vs.length->val b us<val b vs:=by
    intro us vs hu tv h;have h1:=val_lt hu;have h2:=low tv (by rintro rfl;simp at h);have h3:b ^ us.length<=b ^ (vs.length-1):=Nat.pow_le_pow_right hb (by omega);omega
  rcases Nat.lt_or_gt_of_ne hl with h|h
  . rw[cmpN_lt h,cmpN_lt (less hx ty h)]
  . rw[cmpN_gt h,cmpN_gt (less hy tx h)]
def b32 : Nat:=4294967296
theorem b32_one : 1<b32:=by decide
end Go.Proofs.YtglhdielkkhefaaGreat

namespace Go.Proofs.YtglhdielkkhefaaGreat
open Go.RowKit Go.Shelf
attribute [local go_sem] Oper.semAt_some
theorem cmpInt_any (a b:Nat)(w:World)(ha:a<=9223372036854775807)(hb:b<=9223372036854775807) :
  Calls Tryz.prog 142 #[.int .i64 (a:Nat),.int .i64 (b:Nat)] w fun e w'=>e=.returned (.int .i64 (cmpN a b))/\w=w':=by
 unfold cmpN;have h1:((a:Int) != (a:Int))=false:=by simp
 have h2:((b:Int) != (b:Int))=false:=by simp
 rcases Nat.lt_trichotomy a b with h|h|h
 .rw[if_pos h]
  go_enter Tryz.func142,Tryz.ntmps142
  go_wp2
  go_ret
  exact ⟨rfl,rfl⟩
 .subst h;rw[if_neg (by omega),if_neg (by omega)]
  go_enter Tryz.func142,Tryz.ntmps142
  go_wp2
  go_ret
  exact ⟨rfl,rfl⟩
 .rw[if_neg (by omega),if_pos h]
  go_enter Tryz.func142,Tryz.ntmps142
  go_wp2
  go_ret
  exact ⟨rfl,rfl⟩
theorem cmpWord_any (a b:Nat)(w:World)(ha:a<4294967296)(hb:b<4294967296) :
  Calls Tryz.prog 170 #[.int .u32 (a:Nat),.int .u32 (b:Nat)] w fun e w'=>e=.returned (.int .i64 (cmpN a b))/\w=w':=by
 unfold cmpN;have h1:((a:Int) != (a:Int))=false:=by simp
 have h2:((b:Int) != (b:Int))=false:=by simp
 rcases Nat.lt_trichotomy a b with h|h|h
 .rw[if_pos h]
  go_enter Tryz.func170,Tryz.ntmps170
  go_wp2
  go_ret
  exact ⟨rfl,rfl⟩
 .subst h;rw[if_neg (by omega),if_neg (by omega)]
  go_enter Tryz.func170,Tryz.ntmps170
  go_wp2
  go_ret
  exact ⟨rfl,rfl⟩
 .rw[if_neg (by omega),if_pos h]
  go_enter Tryz.func170,Tryz.ntmps170
  go_wp2
  go_ret
  exact ⟨rfl,rfl⟩
theorem compare_short (A A':Option Addr)(c c' n n':Nat)(w:World)(hn:n<=9223372036854775807)(hn':n'<=9223372036854775807)(hne:n≠n') :
  Calls Tryz.prog 143 #[.slice A n c,.slice A' n' c'] w fun e w'=>e=.returned (.int .i64 (cmpN n n'))/\Below w.heap.size w w':=by
 have h1:((n:Int) != (n':Int))=true:=by rw[bne_iff_ne];omega
 have HNE:=Hd hne;clear hne
 go_enter Tryz.func143,Tryz.ntmps143
 go_wp2_with (go_at_call 142;refine (cmpInt_any _ _ _ hn hn').mono ?_;rintro e w' ⟨rfl,rfl⟩)
 exact bodyPost_ret (v:=.int .i64 (cmpN n n')) (by simp[results,Tryz.f143,go_sem]) rfl ⟨rfl,bRR.alloc (by simp) _⟩
theorem compare_same (A A':Option Addr)(c c':Nat)(xs ys:List Nat)(w:World)(hx:Rd .u32 w w.heap.size A xs)(hy:Rd .u32 w w.heap.size A' ys)(hl:xs.length=ys.length)
  (dx:Dg b32 xs) (dy:Dg b32 ys) (hxc:xs.length<=c) (hc:c<=9223372036854775807) (hyc:ys.length<=c') (hc':c'<=9223372036854775807) :
  CallsIn Fence.wide 3 Tryz.prog 143 #[.slice A xs.length c,.slice A' xs.length c'] w fun e w'=>e=.returned (.int .i64 (cmpN (val b32 xs) (val b32 ys)))/\Below w.heap.size w w':=by
 have h1:((xs.length:Int) != (xs.length:Int))=false:=by simp
 have HL:=Hd hl;have hl63:xs.length<=9223372036854775807:=by omega
 clear hl;refine callsIn_of_wp_marks Tryz.func143 rfl trivial ?_ rfl;simp only[Tryz.ntmps143,List.size_toArray,List.length_cons,List.length_nil,Nat.reduceAdd,Nat.reduceSub,Array.replicate_succ,Array.replicate_zero,List.push_toArray,List.append_toArray,List.nil_append,List.cons_append]
 gi_wp2_with (refine ⟨trivial,?_⟩;gi_at_call 169;refine (callsIn_wide.2 (backward_any _ _ _ _)).mono ?_;rintro e w' ⟨rfl,rfl⟩)
 have bY:Boxed (((w.alloc (.cells #[.slice A' xs.length c'] 28)).alloc (.cells #[.int .i64 0] 3)).alloc (.cells #[.slice A xs.length c] 28)) w.heap.size 28 (.slice A' xs.length c'):=((Boxed.new w _ _).alloc _).alloc _
 have bR:Boxed (((w.alloc (.cells #[.slice A' xs.length c'] 28)).alloc (.cells #[.int .i64 0] 3)).alloc (.cells #[.slice A xs.length c] 28)) (w.heap.size+1) 3 (.int .i64 0):=by
  have h:=Boxed.new (w.alloc (.cells #[.slice A' xs.length c'] 28)) 3 (.int .i64 0);rw[szA]at h;exact h.alloc _
 have bX:Boxed (((w.alloc (.cells #[.slice A' xs.length c'] 28)).alloc (.cells #[.int .i64 0] 3)).alloc (.cells #[.slice A xs.length c] 28)) (w.heap.size+2) 28 (.slice A xs.length c):=by
  have h:=Boxed.new ((w.alloc (.cells #[.slice A' xs.length c'] 28)).alloc (.cells #[.int .i64 0] 3)) 28 (.slice A xs.length c);rw[szA,szA]at h;exact h
 have hb0:Below w.heap.size w (((w.alloc (.cells #[.slice A' xs.length c'] 28)).alloc (.cells #[.int .i64 0] 3)).alloc (.cells #[.slice A xs.length c] 28)) :=
  (bRR.alloc (by simp) _).alloc (by simp;omega) _
 have hsz:(((w.alloc (.cells #[.slice A' xs.length c'] 28)).alloc (.cells #[.int .i64 0] 3)).alloc (.cells #[.slice A xs.length c] 28)).heap.size=w.heap.size+3:=by simp
 generalize (((w.alloc (.cells #[.slice A' xs.length c'] 28)).alloc (.cells #[.int .i64 0] 3)).alloc (.cells #[.slice A xs.length c] 28))=W0 at bY bR bX hb0 hsz ⊢
 refine wp_rounds (gf:=179) (lb:=#[.pointer (some ⟨w.heap.size+2,0,none⟩)]) ?hg (enters_of Tryz.func179 (by kernel_rfl) rfl)
  (N:=xs.length) (enc:=backE xs) (Keep:=fun k=>KeepAt (backS (w.heap.size+2) A (xs.length-1-k)))
  (fun W hW=>backward_gives (w.heap.size+2) w.heap.size c A xs hxc hc W ((hW.cell (p:=⟨w.heap.size+2,0,none⟩) (by show w.heap.size+2<_;omega)).trans bX.cell) (hx.below (hb0.trans (hW.mono (by omega)))))
  (fun k A₁ B₁ o o' _ h=>keepAt_round (backS_lt hx (by omega) (by omega) (by omega)) o o' h)
  ?hps
  (fun k W=>(∀j,xs.length-k<=j->j<xs.length->xs.getD j 0=ys.getD j 0)/\Boxed W w.heap.size 28 (.slice A' xs.length c')/\Boxed W (w.heap.size+1) 3 (.int .i64 0)/\Below w.heap.size w W)
  (fun jmp k W=>jmp=.ret/\Boxed W (w.heap.size+1) 3 (.int .i64 (cmpN (val b32 xs) (val b32 ys)))/\Below w.heap.size w W)
  ?hI ?hIx ⟨fun j h1 h2=>by omega,bY,bR,hb0⟩
  (fun k=>{ tmps:=#[.slice A xs.length c,.slice A' xs.length c',undef,.pointer (some ⟨w.heap.size,0,none⟩),.pointer (some ⟨w.heap.size+1,0,none⟩),.int .i64 ((xs.length-1-k:Nat):Int),.int .u32 ((xs.getD (xs.length-1-k) 0:Nat):Int),
   .slice A xs.length c,.int .i64 (xs.length:Nat),.slice A' xs.length c',.int .i64 (xs.length:Nat),.bool false,undef,undef,undef,undef,undef,.slice A xs.length c,
   .func (.func 179) #[] #[.pointer (some ⟨w.heap.size+1+1,0,none⟩)],.int .i64 ((xs.length-1-k:Nat):Int),.int .u32 ((xs.getD (xs.length-1-k) 0:Nat):Int),undef,undef,undef,undef,undef,undef,undef,undef,undef,undef,undef,undef],defers:=[] }) ?assign ?body ?done ?stop
 case hg=>rfl
 case hps=>exact fun _=>rfl
 case hI =>
  exact OwnFrom.and (ownFrom_pure _ _) (OwnFrom.and (Own.from (boxed_own _ _ _) _) (OwnFrom.and (Own.from (boxed_own _ _ _) _) (ownFrom_below (Nat.le_refl _) (by omega))))
 case hIx =>
  exact fun jmp=>OwnFrom.and (ownFrom_pure _ _) (OwnFrom.and (Own.from (boxed_own _ _ _) _) (ownFrom_below (Nat.le_refl _) (by omega)))
 case assign =>
  intro l k W K hK;unfold backE
  gi_wp2
  exact hK
 case body =>
  rintro l k W hlt ⟨hs,bY1,bR1,hb1⟩ hk;obtain ⟨m,hm⟩:∃m,xs.length-1-k=m:=⟨_,rfl⟩
  simp only[hm];have hmx:m<xs.length:=by omega
  have hmy:m<ys.length:=by have:=HL.out;omega
  obtain ⟨b',o',rfl,hB,hcell⟩:=(hy.below hb1).at_ hmy;have hcy:=hcell m hmy;rw[<-getD_at hmy]at hcy;have hxl:xs.getD m 0<4294967296:=by rw[getD_at hmx];exact dx.at_ hmx
  have hyl:ys.getD m 0<4294967296:=by rw[getD_at hmy];exact dy.at_ hmy
  have HX:=Hd (cmpN_of (b:=b32) (m:=m) dx dy HL.out hmx (fun j h1 h2=>hs j (by omega) h2));obtain ⟨x,hX⟩:∃x,Hid (xs.getD m 0=x):=⟨_,rfl⟩
  obtain ⟨y,hY⟩:∃y,Hid (ys.getD m 0=y):=⟨_,rfl⟩
  rw[hX.out]at HX hxl ⊢;rw[hY.out]at HX hcy hyl;have HM:=Hd hm;have HS:=Hd hs;have cY:=bY1.cell;have cR:=bR1.cell;have fR:=bR1.frozen;clear hm hs hcell hx dx dy hb0 bY bR bX hsz hy
  by_cases hxy:x=y
  .have ht:((x:Int) != (y:Int))=false:=by subst hxy;simp
   have HXY:=Hd hxy;clear hxy
   gi_wp2
   refine ⟨KeepsFrom.refl _ _,fun p _=>rfl,fun j h1 h2=>?_,bY1,bR1,hb1⟩
   by_cases hjm:j=m
   .subst hjm;rw[hX.out,hY.out];exact HXY.out
   .exact HS.out j (by have:=HM.out;omega) h2
  .have ht:((x:Int) != (y:Int))=true:=by rw[bne_iff_ne];omega
   have HXY:=Hd hxy;clear hxy
   gi_wp2_with (refine ⟨trivial,?_⟩;gi_at_call 170;refine (CallsIn.inRound l (callsIn_wide.2 (cmpWord_any x y _ hxl hyl))).mono ?_;rintro e w' ⟨rfl,rfl⟩)
   refine ⟨(KeepsOthers.setCell _ _ _).from _,rfl,?_,hb1.setCell (p:=⟨w.heap.size+1,0,none⟩) (by simp) _⟩;rw[HX.out HXY.out];exact bR1.set _
 case done =>
  rintro W ⟨hs,bY1,bR1,hb1⟩ hK;have he:xs=ys:=eq_of_getD HL.out fun j hj=>hs j (by omega) hj
  have HE:Hid (cmpN (val b32 xs) (val b32 ys)=0):=by rw[he];exact cmpN_refl _
  have cR:=bR1.cell;have fR:=bR1.frozen;clear hs he hb0 bY bR bX
  gi_wp2
  have hK':=(KeepsOthers.setCell W ⟨w.heap.size+1,0,none⟩ (.int .i64 0)).same _ _ hK rfl;have bR2:=(bR1.set (.int .i64 0)).kept (grownBy_putObj' _ W0.heap.size (.deferred none)) (by simp;omega);refine ⟨by simp,.inl ⟨_,_,rfl,run_takeDeferred hK',?_⟩⟩;refine ⟨.int .i64 0,?_,by rw[HE.out],(hb1.setCell (p:=⟨w.heap.size+1,0,none⟩) (by simp) _).grown (grownBy_putObj' _ _ _) (by have:=hb1.size;simpa [World.setCell]using this) (fun k e=>by cases e;omega)⟩;have hc5:=bR2.cell;simp[results,Tryz.f143,go_sem,hc5]
 case stop =>
  rintro jmp k W hk ⟨rfl,bR1,hb1⟩ hK;clear hb0 bY bR bX
  gi_wp2
  have bR2:=bR1.kept (grownBy_putObj' _ W0.heap.size (.deferred none)) (by simp;omega);refine ⟨by simp,.inl ⟨_,_,rfl,run_takeDeferred hK,?_⟩⟩;refine ⟨.int .i64 (cmpN (val b32 xs) (val b32 ys)),?_,rfl,hb1.grown (grownBy_putObj' _ _ _) hb1.size (fun k e=>by cases e;omega)⟩;have hc5:=bR2.cell;simp[results,Tryz.f143,go_sem,hc5]
theorem compare_any (A A':Option Addr)(c c':Nat)(xs ys:List Nat)(w:World)(hx:Rd .u32 w w.heap.size A xs)(hy:Rd .u32 w w.heap.size A' ys)(tx:trimN xs=xs.length)(ty:trimN ys=ys.length)
  (dx:Dg b32 xs) (dy:Dg b32 ys) (hxc:xs.length<=c) (hc:c<=9223372036854775807) (hyc:ys.length<=c') (hc':c'<=9223372036854775807) :
  Calls Tryz.prog 143 #[.slice A xs.length c,.slice A' ys.length c'] w fun e w'=>e=.returned (.int .i64 (cmpN (val b32 xs) (val b32 ys)))/\Below w.heap.size w w':=by
 by_cases hl:xs.length=ys.length
 .have h:=callsIn_wide.1 (compare_same A A' c c' xs ys w hx hy hl dx dy hxc hc hyc hc');rw[hl]at h;rw[hl];exact h
 .rw[cmpN_len (by decide) dx dy tx ty hl];exact compare_short A A' c c' _ _ w (by omega) (by omega) hl
end Go.Proofs.YtglhdielkkhefaaGreat

namespace Go.Proofs.YtglhdielkkhefaaGreat
open Go.RowKit
theorem ret_slice {A:Option Addr}{n m c:Nat}(h:n=m):Ending.returned (.slice A n c)=Ending.returned (.slice A m c):=by rw[h]
theorem trim_any (A:Option Addr)(c B:Nat)(xs:List Nat)(w:World)(hr:Rd .u32 w B A xs)(hlc:xs.length<=c)(hc:c<=9223372036854775807) :
  Calls Tryz.prog 119 #[.slice A xs.length c] w fun e w'=>e=.returned (.slice A (trimN xs) c)/\w=w':=by
 go_enter Tryz.func119,Tryz.ntmps119
 go_wp2
 go_loop [3] (fun n=>∃k:Nat,k<=xs.length/\trimN (xs.take k)=trimN xs/\n=.int .i64 k) (fun n=>(intOf n).toNat)
 case atStart=>exact ⟨xs.length,Nat.le_refl _,by rw[List.take_length],rfl⟩
 case round =>
  obtain ⟨k,hk,ht,rfl⟩:=hrel;have HT:=Hd ht;clear ht
  rcases Nat.eq_zero_or_pos k with h0|h0
  .subst h0;go_wp2
   go_ret
   exact ⟨ret_slice (by rw[<-HT.out];simp[trimN]),rfl⟩
  .obtain ⟨j,rfl⟩:∃j,k=j+1:=⟨k-1,by omega⟩
   have hj:j<xs.length:=by omega
   obtain ⟨b,o,rfl,hb,hcell⟩:=hr.at_ hj;have hcj:=hcell j hj
   by_cases hz:xs[j]=0
   .rw[hz]at hcj;have HZ:=Hd hz;clear hz hcell;go_wp2
    go_round
    case rel=>exact ⟨j,by omega,by rw[<-HT.out,trimN_step_zero xs j hj HZ.out],rfl⟩
    case measure=>simp[intOf]
   .have HZ:=Hd hz;have hz':((xs[j]:Int)==0)=false:=by simp[hz]
    clear hz hcell;go_wp2
    go_ret
    exact ⟨ret_slice (by rw[<-HT.out,trimN_step xs j hj HZ.out]),rfl⟩
def Sl (kd:IntKind)(w:World)(B:Nat)(v:Value)(xs:List Nat):Prop :=
 ∃A c,v=.slice A xs.length c/\Rd kd w B A xs/\xs.length<=c/\c<=9223372036854775807
theorem Sl.to {kd:IntKind}{w w':World}{v:Value}{xs:List Nat}(h:Sl kd w w.heap.size v xs)(hb:Below w.heap.size w w'):Sl kd w' w'.heap.size v xs:=by
 obtain ⟨A,c,rfl,hr,h1,h2⟩:=h;exact ⟨A,c,rfl,hr.to hb,h1,h2⟩
theorem Sl.trim {kd:IntKind}{w:World}{B c b:Nat}{A:Option Addr}{xs:List Nat}(hb:1<b)(h:Rd kd w B A xs)(hd:Dg b xs)(hc:xs.length<=c)(hc':c<=9223372036854775807) :
  Sl kd w B (.slice A (trimN xs) c) (dig b (val b xs)):=by
 refine ⟨A,c,?_,?_,?_,hc'⟩
 .rw[<-trimL_dig hb hd,trimL_length]
 .rw[<-trimL_dig hb hd];exact h.take _
 .rw[<-trimL_dig hb hd];exact Nat.le_trans (trimL_le xs) hc
theorem Rd.new (kd:IntKind)(w:World)(e:TypeId)(xs:List Nat):Rd kd (w.alloc (.cells (ints kd xs).toArray e)) (w.heap.size+1) (some ⟨w.heap.size,0,none⟩) xs:=by
 intro k hk;refine ⟨_,_,rfl,by omega,?_⟩
 have h1:(w.alloc (.cells (ints kd xs).toArray e)).heap[w.heap.size]?=some (.cells (ints kd xs).toArray e):=by
  show (w.heap.push _)[w.heap.size]?=_
  simp
 simp only[World.cell?,h1];simp[ints,hk]
theorem two_val (n:Nat):val b32 [n % 4294967296,n / 4294967296]=n:=by simp only[val,b32];omega
theorem two_dg {n:Nat}(hn:n<18446744073709551616):Dg b32 [n % 4294967296,n / 4294967296] :=
 Dg.cons (by unfold b32;omega) (Dg.one (by unfold b32;omega))
theorem toWords_any (n:Nat)(hn:n<18446744073709551616)(w:World) :
  Calls Tryz.prog 152 #[.int .u64 (n:Nat)] w fun e w'=>∃v,e=.returned v/\Sl .u32 w' w'.heap.size v (dig b32 n)/\Below w.heap.size w w':=by
 have hr:=Rd.new .u32 w 89 [n % 4294967296,n / 4294967296];have HR:=Hd hr;have HN:=Hd hn;clear hr
 go_enter Tryz.func152,Tryz.ntmps152
 go_wp2_with fail
 refine (trim_any _ 2 (w.heap.size+1) [n % 4294967296,n / 4294967296] _ HR.out (by simp) (by omega)).mono ?_;rintro e w' ⟨rfl,rfl⟩;go_wp2
 go_ret
 have hs:=Sl.trim b32_one HR.out (two_dg HN.out) (c:=2) (by simp) (by omega);rw[two_val]at hs;exact ⟨_,rfl,by simpa using hs,bRR⟩
open Go.Shelf
attribute [local go_sem] Oper.semAt_some
theorem combiner_any (p q:Int)(w:World) :
  Calls Tryz.prog 177 #[.int .i64 p,.int .i64 q] w fun e w'=>e=.returned (.func (.func 189) #[] #[.pointer (some ⟨w.heap.size,0,none⟩),.pointer (some ⟨w.heap.size+1,0,none⟩),.pointer (some ⟨w.heap.size+1+1,0,none⟩)]) /\
   w'=((w.alloc (.cells #[.int .i64 p] 2)).alloc (.cells #[.int .i64 q] 2)).alloc (.cells #[.int .i64 0] 2):=by
 go_enter Tryz.func177,Tryz.ntmps177
 go_wp2
 go_ret
 exact ⟨rfl,rfl⟩
theorem combiner1_any (p q r:Int)(u v:Nat)(Bp Bq Br:Nat)(w:World)(hu:u<4294967296)(hv:v<4294967296)
  (cp:w.cell? ⟨Bp,0,none⟩=some (.int .i64 p)) (cq:w.cell? ⟨Bq,0,none⟩=some (.int .i64 q)) (cr:w.cell? ⟨Br,0,none⟩=some (.int .i64 r)) (fr:w.frozen? ⟨Br,0,none⟩=false)
  (h1:-9223372036854775808<=p*(u:Int)) (h2:p*(u:Int)<=9223372036854775807) (h3:-9223372036854775808<=q*(v:Int)) (h4:q*(v:Int)<=9223372036854775807)
  (h5:-9223372036854775808<=p*(u:Int)+q*(v:Int)) (h6:p*(u:Int)+q*(v:Int)<=9223372036854775807)
  (h7:-9223372036854775808<=p*(u:Int)+q*(v:Int)+r) (h8:p*(u:Int)+q*(v:Int)+r<=9223372036854775807) :
  Calls Tryz.prog 189 #[.int .u32 (u:Nat),.int .u32 (v:Nat),.pointer (some ⟨Bp,0,none⟩),.pointer (some ⟨Bq,0,none⟩),.pointer (some ⟨Br,0,none⟩)] w fun e w' =>
   e=.returned (.int .u32 ((p*u+q*v+r) % 4294967296))/\w'=w.setCell ⟨Br,0,none⟩ (.int .i64 ((p*u+q*v+r) / 4294967296)):=by
 go_enter Tryz.func189,Tryz.ntmps189
 go_wp2
 go_ret
 exact ⟨rfl,rfl⟩
theorem pairs_any (A A':Option Addr)(n n' c c':Nat)(w:World) :
  Calls Tryz.prog 178 #[.slice A n c,.slice A' n' c'] w fun e w'=>e=.returned (.func (.func 190) #[] #[.pointer (some ⟨w.heap.size,0,none⟩),.pointer (some ⟨w.heap.size+1,0,none⟩)]) /\
   w'=(w.alloc (.cells #[.slice A n c] 28)).alloc (.cells #[.slice A' n' c'] 28):=by
 go_enter Tryz.func178,Tryz.ntmps178
 go_wp2
 go_ret
 exact ⟨rfl,rfl⟩
def pairE (xs ys:List Nat)(k:Nat):Array Value:=#[.int .u32 ((xs.getD k 0:Nat):Int),.int .u32 ((ys.getD k 0:Nat):Int)]
def pairS (Bx By B:Nat)(p:Addr):Prop:=p=⟨Bx,0,none⟩∨p=⟨By,0,none⟩∨p.block<B
theorem pairS_lt {Bx By B S:Nat}(h1:Bx<S)(h2:By<S)(h3:B<=S):∀p,pairS Bx By B p->p.block<S:=by
 rintro p (rfl|rfl|hp)
 .exact h1
 .exact h2
 .omega
theorem Rd.keepAt {kd:IntKind}{w w':World}{B:Nat}{S:Addr->Prop}{A:Option Addr}{xs:List Nat}(h:Rd kd w B A xs)(hS:∀p:Addr,p.block<B->S p)(hk:KeepAt S w w'):Rd kd w' B A xs:=by
 intro k hk';obtain ⟨b,o,rfl,hb,hc⟩:=h k hk';exact ⟨b,o,rfl,hb,(hk _ (hS _ hb)).trans hc⟩
theorem pairs_gives (Bx By B c c':Nat)(A A':Option Addr)(xs ys:List Nat)(hx63:xs.length<=9223372036854775807)(hy63:ys.length<=9223372036854775807)(W:World)
  (hbx:W.cell? ⟨Bx,0,none⟩=some (.slice A xs.length c)) (hby:W.cell? ⟨By,0,none⟩=some (.slice A' ys.length c')) (hx:Rd .u32 W B A xs) (hy:Rd .u32 W B A' ys) :
  Gives Tryz.prog 190 #[.pointer (some ⟨Bx,0,none⟩),.pointer (some ⟨By,0,none⟩)] (max xs.length ys.length) (pairE xs ys) (fun _=>KeepAt (pairS Bx By B)) W:=by
 intro l J Jx hY h0;refine callsIn_of_wp Tryz.func190 rfl trivial ?_ rfl;simp only[Tryz.ntmps190,List.size_toArray,List.length_cons,List.length_nil,Nat.reduceAdd,Nat.reduceSub,Array.replicate_succ,Array.replicate_zero,List.push_toArray,List.append_toArray,List.nil_append,List.cons_append];obtain ⟨N,hN,hNx,hNy⟩:∃N,N=max xs.length ys.length/\xs.length<=N/\ys.length<=N:=⟨_,rfl,by omega,by omega⟩
 have hN63:N<=9223372036854775807:=by omega
 rw[<-hN]at hY ⊢
 rcases Nat.lt_or_ge xs.length ys.length with hle|hle
 rotate_left
 .obtain rfl:N=xs.length:=by omega
  clear hN
  gi_wp2
  gi_loopw [12] (fun i wr=>∃k:Nat,i=.int .i64 k/\(k<=xs.length∨k<=ys.length)/\J k wr/\wr.cell? ⟨Bx,0,none⟩=some (.slice A xs.length c)/\wr.cell? ⟨By,0,none⟩=some (.slice A' ys.length c')/\Rd .u32 wr B A xs/\Rd .u32 wr B A' ys)
   (fun i _=>(max xs.length ys.length:Nat)-(intOf i).toNat)
  case atStart=>exact ⟨0,rfl,by omega,h0,hbx,hby,hx,hy⟩
  case round =>
   obtain ⟨k,rfl,hk,hJ,cx,cy,rx,ry⟩:=hrel
   by_cases hlt:k<xs.length
   .have hY1:=hY k wr (by omega) hJ;unfold pairE at hY1
    have next:∀W3,J (k+1) W3->KeepAt (pairS Bx By B) wr W3->(∃k':Nat,(Value.int .i64 ((k:Int)+1))=.int .i64 k'/\(k'<=xs.length∨k'<=ys.length)/\J k' W3/\W3.cell? ⟨Bx,0,none⟩=some (.slice A xs.length c)/\W3.cell? ⟨By,0,none⟩=some (.slice A' ys.length c')/\Rd .u32 W3 B A xs/\Rd .u32 W3 B A' ys) :=
     fun W3 hJ3 hk3=>⟨k+1,by simp,by omega,hJ3,(hk3 _ (.inl rfl)).trans cx,(hk3 _ (.inr (.inl rfl))).trans cy,rx.keepAt (fun p hp=>.inr (.inr hp)) hk3,ry.keepAt (fun p hp=>.inr (.inr hp)) hk3⟩
    have NEXT:=Hd next;have HEND:=Hd hlt;clear next hY hx hy hbx hby;have h1:k<xs.length:=hlt
    by_cases h2:k<ys.length
    .obtain ⟨b1,o1,rfl,_,hc1⟩:=rx.at_ h1;have c1:=hc1 k h1;rw[<-getD_at h1]at c1;obtain ⟨u,hu⟩:∃u,xs.getD k 0=u:=⟨_,rfl⟩
     rw[hu]at c1 hY1;clear hu hc1;obtain ⟨b2,o2,rfl,_,hc2⟩:=ry.at_ h2;have c2:=hc2 k h2;rw[<-getD_at h2]at c2;obtain ⟨v,hv⟩:∃v,ys.getD k 0=v:=⟨_,rfl⟩
     rw[hv]at c2 hY1;clear hv hc2;clear hlt rx ry;obtain ⟨fn,tmps,assign,body,hyy,hR⟩:=hY1
     gi_wp2
     refine hR.mono ?_;rintro e W3 (⟨rfl,hJ3,hk3⟩|⟨rfl,hJx3⟩)
     .gi_wp2
      go_roundw
      case rel=>exact NEXT.out W3 hJ3 hk3
      case measure=>have:=HEND.out;simp[intOf];omega
     .gi_wp2
      refine bodyPost_ret (results_none rfl _ _ _) rfl ?_;exact ⟨⟨_,rfl⟩,.inr ⟨k,by have:=HEND.out;omega,hJx3⟩⟩
    .obtain ⟨b1,o1,rfl,_,hc1⟩:=rx.at_ h1;have c1:=hc1 k h1;rw[<-getD_at h1]at c1;obtain ⟨u,hu⟩:∃u,xs.getD k 0=u:=⟨_,rfl⟩
     rw[hu]at c1 hY1;clear hu hc1;rw[getD_over (xs:=ys) (by omega),show ((0:Nat):Int)=0 from rfl]at hY1;clear hlt rx ry;obtain ⟨fn,tmps,assign,body,hyy,hR⟩:=hY1
     gi_wp2
     refine hR.mono ?_;rintro e W3 (⟨rfl,hJ3,hk3⟩|⟨rfl,hJx3⟩)
     .gi_wp2
      go_roundw
      case rel=>exact NEXT.out W3 hJ3 hk3
      case measure=>have:=HEND.out;simp[intOf];omega
     .gi_wp2
      refine bodyPost_ret (results_none rfl _ _ _) rfl ?_;exact ⟨⟨_,rfl⟩,.inr ⟨k,by have:=HEND.out;omega,hJx3⟩⟩
   .obtain rfl:k=xs.length:=by omega
    gi_wp2
    go_end0
    exact ⟨⟨_,rfl⟩,.inl hJ⟩
 .obtain rfl:N=ys.length:=by omega
  clear hN
  gi_wp2
  gi_loopw [12] (fun i wr=>∃k:Nat,i=.int .i64 k/\(k<=xs.length∨k<=ys.length)/\J k wr/\wr.cell? ⟨Bx,0,none⟩=some (.slice A xs.length c)/\wr.cell? ⟨By,0,none⟩=some (.slice A' ys.length c')/\Rd .u32 wr B A xs/\Rd .u32 wr B A' ys)
   (fun i _=>(max xs.length ys.length:Nat)-(intOf i).toNat)
  case atStart=>exact ⟨0,rfl,by omega,h0,hbx,hby,hx,hy⟩
  case round =>
   obtain ⟨k,rfl,hk,hJ,cx,cy,rx,ry⟩:=hrel
   by_cases hlt:k<ys.length
   .have hY1:=hY k wr (by omega) hJ;unfold pairE at hY1
    have next:∀W3,J (k+1) W3->KeepAt (pairS Bx By B) wr W3->(∃k':Nat,(Value.int .i64 ((k:Int)+1))=.int .i64 k'/\(k'<=xs.length∨k'<=ys.length)/\J k' W3/\W3.cell? ⟨Bx,0,none⟩=some (.slice A xs.length c)/\W3.cell? ⟨By,0,none⟩=some (.slice A' ys.length c')/\Rd .u32 W3 B A xs/\Rd .u32 W3 B A' ys) :=
     fun W3 hJ3 hk3=>⟨k+1,by simp,by omega,hJ3,(hk3 _ (.inl rfl)).trans cx,(hk3 _ (.inr (.inl rfl))).trans cy,rx.keepAt (fun p hp=>.inr (.inr hp)) hk3,ry.keepAt (fun p hp=>.inr (.inr hp)) hk3⟩
    have NEXT:=Hd next;have HEND:=Hd hlt;clear next hY hx hy hbx hby;have h2:k<ys.length:=hlt
    by_cases h1:k<xs.length
    .obtain ⟨b1,o1,rfl,_,hc1⟩:=rx.at_ h1;have c1:=hc1 k h1;rw[<-getD_at h1]at c1;obtain ⟨u,hu⟩:∃u,xs.getD k 0=u:=⟨_,rfl⟩
     rw[hu]at c1 hY1;clear hu hc1;obtain ⟨b2,o2,rfl,_,hc2⟩:=ry.at_ h2;have c2:=hc2 k h2;rw[<-getD_at h2]at c2;obtain ⟨v,hv⟩:∃v,ys.getD k 0=v:=⟨_,rfl⟩
     rw[hv]at c2 hY1;clear hv hc2;clear hlt rx ry;obtain ⟨fn,tmps,assign,body,hyy,hR⟩:=hY1
     gi_wp2
     refine hR.mono ?_;rintro e W3 (⟨rfl,hJ3,hk3⟩|⟨rfl,hJx3⟩)
     .gi_wp2
      go_roundw
      case rel=>exact NEXT.out W3 hJ3 hk3
      case measure=>have:=HEND.out;simp[intOf];omega
     .gi_wp2
      refine bodyPost_ret (results_none rfl _ _ _) rfl ?_;exact ⟨⟨_,rfl⟩,.inr ⟨k,by have:=HEND.out;omega,hJx3⟩⟩
    .obtain ⟨b2,o2,rfl,_,hc2⟩:=ry.at_ h2;have c2:=hc2 k h2;rw[<-getD_at h2]at c2;obtain ⟨v,hv⟩:∃v,ys.getD k 0=v:=⟨_,rfl⟩
     rw[hv]at c2 hY1;clear hv hc2;rw[getD_over (xs:=xs) (by omega),show ((0:Nat):Int)=0 from rfl]at hY1;clear hlt rx ry;obtain ⟨fn,tmps,assign,body,hyy,hR⟩:=hY1
     gi_wp2
     refine hR.mono ?_;rintro e W3 (⟨rfl,hJ3,hk3⟩|⟨rfl,hJx3⟩)
     .gi_wp2
      go_roundw
      case rel=>exact NEXT.out W3 hJ3 hk3
      case measure=>have:=HEND.out;simp[intOf];omega
     .gi_wp2
      refine bodyPost_ret (results_none rfl _ _ _) rfl ?_;exact ⟨⟨_,rfl⟩,.inr ⟨k,by have:=HEND.out;omega,hJx3⟩⟩
   .obtain rfl:k=ys.length:=by omega
    gi_wp2
    go_end0
    exact ⟨⟨_,rfl⟩,.inl hJ⟩
end Go.Proofs.YtglhdielkkhefaaGreat

namespace Go.Proofs.YtglhdielkkhefaaGreat
def crr (q:Int)(xs ys:List Nat):Nat->Int
 | 0=>0
 | k+1=>((xs.getD k 0:Nat)+q*(ys.getD k 0:Nat)+crr q xs ys k) / 4294967296
def outD (q:Int)(xs ys:List Nat)(k:Nat):Nat:=(((xs.getD k 0:Nat)+q*(ys.getD k 0:Nat)+crr q xs ys k) % 4294967296).toNat
def outs (q:Int)(xs ys:List Nat):Nat->List Nat
 | 0=>[]
 | k+1=>outs q xs ys k++[outD q xs ys k]
theorem outs_length (q:Int)(xs ys:List Nat):∀k,(outs q xs ys k).length=k
 | 0=>rfl
 | k+1=>by simp[outs,outs_length q xs ys k]
theorem outD_lt (q:Int)(xs ys:List Nat)(k:Nat):outD q xs ys k<b32:=by
 unfold outD b32;omega
theorem outD_cast (q:Int)(xs ys:List Nat)(k:Nat):((outD q xs ys k:Nat):Int)=((xs.getD k 0:Nat)+q*(ys.getD k 0:Nat)+crr q xs ys k) % 4294967296:=by
 unfold outD;omega
theorem outs_dg (q:Int)(xs ys:List Nat):∀k,Dg b32 (outs q xs ys k)
 | 0=>Dg.nil
 | k+1=>(outs_dg q xs ys k).app (Dg.one (outD_lt q xs ys k))
theorem val_take_succ {b:Nat}(xs:List Nat)(k:Nat):val b (xs.take (k+1))=val b (xs.take k)+b ^ k*xs.getD k 0:=by
 by_cases h:k<xs.length
 .rw[take_snoc xs k h,val_append,getD_at h];have:(xs.take k).length=k:=by simp;omega
  rw[this];simp[val]
 .rw[getD_over (by omega),List.take_of_length_le (by omega),List.take_of_length_le (by omega)];simp
theorem getD_dg {b:Nat}(hb:0<b){xs:List Nat}(h:Dg b xs)(k:Nat):xs.getD k 0<b:=by
 by_cases hk:k<xs.length
 .rw[getD_at hk];exact h.at_ hk
 .rw[getD_over (by omega)];exact hb
theorem outs_val (q:Int)(xs ys:List Nat):∀k,((val b32 (outs q xs ys k):Nat):Int)+(b32 ^ k:Nat)*crr q xs ys k=(val b32 (xs.take k):Nat)+q*(val b32 (ys.take k):Nat)
 | 0=>by simp[outs,val,crr]
 | k+1=>by
  have ih:=outs_val q xs ys k;rw[outs,val_append,outs_length,val_take_succ xs k,val_take_succ ys k,crr];simp only[val,Nat.mul_zero,Nat.add_zero];have h1:=outD_cast q xs ys k;have h2:=Int.emod_add_mul_ediv ((xs.getD k 0:Nat)+q*(ys.getD k 0:Nat)+crr q xs ys k) 4294967296;rw[<-h1]at h2;generalize ((xs.getD k 0:Nat)+q*(ys.getD k 0:Nat)+crr q xs ys k:Int) / 4294967296=c at h2 ⊢;generalize outD q xs ys k=d at h1 h2 ⊢;clear h1;have h3:((b32 ^ (k+1):Nat):Int)=(b32 ^ k:Nat)*4294967296:=by rw[Nat.pow_succ];simp[b32]
  rw[h3];simp only[Int.natCast_add,Int.natCast_mul];have h4:((b32 ^ k:Nat):Int)*((d:Int)+4294967296*c)=(b32 ^ k:Nat)*((xs.getD k 0:Nat)+q*(ys.getD k 0:Nat)+crr q xs ys k):=by rw[h2]
  simp only[Int.mul_add]at h4 ⊢;have h5:q*(((b32 ^ k:Nat):Int)*((ys.getD k 0:Nat):Int))=(b32 ^ k:Nat)*(q*(ys.getD k 0:Nat)):=by rw[Int.mul_left_comm]
  rw[h5,Int.mul_assoc];omega
theorem crr_bounds {q:Int}(hq:q=1∨q=-1){xs ys:List Nat}(hx:Dg b32 xs)(hy:Dg b32 ys):∀k,-1<=crr q xs ys k/\crr q xs ys k<=1
 | 0=>by simp[crr]
 | k+1=>by
  obtain ⟨h1,h2⟩:=crr_bounds hq hx hy k;have h3:=getD_dg (by decide) hx k;have h4:=getD_dg (by decide) hy k;unfold b32 at h3 h4;rw[crr]
  rcases hq with rfl|rfl<;>omega
theorem outs_all {q:Int}(hq:q=1∨q=-1){xs ys:List Nat}(hx:Dg b32 xs)(hy:Dg b32 ys)(h0:0<=((val b32 xs:Nat):Int)+q*(val b32 ys:Nat)){N:Nat}(hN:xs.length<=N)(hN':ys.length<=N) :
  ((val b32 (outs q xs ys (N+1)):Nat):Int)=(val b32 xs:Nat)+q*(val b32 ys:Nat):=by
 have h1:=outs_val q xs ys N;rw[List.take_of_length_le hN,List.take_of_length_le hN']at h1;have h2:=val_lt (outs_dg q xs ys N);rw[outs_length]at h2;obtain ⟨h3,h4⟩:=crr_bounds hq hx hy N
 have h5:0<=crr q xs ys N:=by
  rcases Int.lt_or_le (crr q xs ys N) 0 with h|h
  .have:crr q xs ys N=-1:=by omega
   rw[this]at h1;omega
  .exact h
 rw[outs,val_append,outs_length];simp only[val,Nat.mul_zero,Nat.add_zero]
 have h6:outD q xs ys N=(crr q xs ys N).toNat:=by
  unfold outD;rw[getD_over hN,getD_over hN'];simp;omega
 rw[h6];have h7:(((crr q xs ys N).toNat:Nat):Int)=crr q xs ys N:=by omega
 rw[Int.natCast_add,Int.natCast_mul,h7];exact h1
end Go.Proofs.YtglhdielkkhefaaGreat
