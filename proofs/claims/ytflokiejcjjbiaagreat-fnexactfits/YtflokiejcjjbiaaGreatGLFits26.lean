/- Own texts, joined: contracts that the law's proof goes by. -/
import Derived.Test.YtflokiejcjjbiaaGreatGLFits23
import Derived.Handy
import Derived.Test.YtflokiejcjjbiaaGreatGLFits2
import Derived.RangeFuncNested
import Derived.RangeFuncBound
import Derived.RangeFuncCalls
import Derived.RangeFuncLeaves
import Derived.Shelf.Abstract
import Derived.WalkKit
import Derived.OwnWalkIn
import Derived.TacticsInMore
import Derived.LoopNIn
import Derived.LoopIn
import Derived.OrdersIn
import Derived.Maps.RangeWalk
import Derived.RangeFuncBox
set_option maxHeartbeats 16000000
set_option maxRecDepth 100000
set_option linter.unusedVariables false
set_option linter.unusedSimpArgs false
namespace Go.Proofs.YtflokiejcjjbiaaGreat
section
open Go.RowKit
structure OrderedOf (W:Int)(cs ds:List C2):Prop where
 asc:Asc ds
 good:∀c∈ds,c.n≠0∧gR8 W c.r
 tot:∀r,gR8 W r→totC ds r=totC cs r
theorem totC_mem:∀ {ds:List C2} {c:C2},(ds.Pairwise fun x y=>x.r≠y.r)→c∈ds→totC ds c.r=c.n
 |d::ds,c,hp,hc=>by
  obtain⟨h1,h2⟩:=List.pairwise_cons.1 hp;rw[totC];rcases List.mem_cons.1 hc with rfl|h
  ·rw[if_pos (cmpRow_irr _),totC_none fun x hx=>(h1 x hx).symm,Int.add_zero]
  ·rw[if_neg (fun e=>h1 c h ((cmpRow_0 _ _).1 e)),totC_mem h2 h,Int.zero_add]
structure Coll {w:World}{b:Nat}(D:DT)(W:Int)(cs:List C2)(left:Lit→Bool)(ss:List (RowT w b)):Prop where
 mem:∀x∈ss,gR8 W x.1.2.r∧x.1.2.n=totC cs x.1.2.r∧x.1.2.n≠0∧left (klit x.1.2.r)=false
 apart:ss.Pairwise fun x y=>x.1.2.r≠y.1.2.r
 all:∀r,gR8 W r→totC cs r≠0→left (klit r)=true∨∃x∈ss,x.1.2.r=r
 has:∀kl,left kl=true→Maps.has D kl=true
theorem Coll.start {w:World}{b:Nat}{D:DT}{W:Int}{cs:List C2}(h:TallyOf w b D W cs):Coll (w:=w) (b:=b) D W cs (Maps.has D) []:=
 ⟨fun x hx=>(by cases hx),List.Pairwise.nil,fun r hr hn=>(by obtain⟨v,h1,_⟩:=h.yes r hr hn;exact .inl (Maps.has_true_of_atKey h1)),fun _ h=>h⟩
theorem Coll.next {w:World}{b:Nat}{D:DT}{W:Int}{cs:List C2}{left:Lit→Bool}{ss:List (RowT w b)}(hT:TallyOf w b D W cs)(hW:W≤1048576)(h:Coll D W cs left ss){kl:Lit}(hl:left kl=true){a:Option Addr}{l c:Nat}{m:Int}(hat:∀z,D.atKey kl z=.held (.slice a l c,m)):∃x:RowT w b,x.1.1=.slice a l c∧x.1.2.n=m∧Coll D W cs (fun z=>left z &&!z.sameKey kl) (ss++ [x]):=by
 obtain⟨r,hr,rfl⟩:=hT.only kl (h.has kl hl);have hn:totC cs r≠0:=fun e=>by
  have:=hT.no r hr e;rw[h.has _ hl]at this;cases this
 obtain⟨v,h1,h2⟩:=hT.yes r hr hn;have e:=(h1 .nil).symm.trans (hat .nil);obtain⟨rfl,rfl⟩:v=.slice a l c∧totC cs r=m:=by simpa using e
 have hself:(klit r).sameKey (klit r)=true:=WideAt.sameKey_self (klit_key r);have hlen:r.length≤1048576:=by
  have:=hr.1;simp only[okRow,Bool.and_eq_true,decide_eq_true_eq]at this;omega
 refine⟨⟨(.slice a l c,⟨r,totC cs r⟩),h2,hlen⟩,rfl,rfl,⟨fun x hx=>?_,?_,fun q hq hnq=>?_,fun k hk=>?_⟩⟩
 ·rcases List.mem_append.1 hx with hx|hx
  ·obtain⟨g1,g2,g3,g4⟩:=h.mem x hx;exact⟨g1,g2,g3,by rw[g4];rfl⟩
  ·rcases List.mem_singleton.1 hx with rfl;exact⟨hr,rfl,hn,by simp[hself]⟩
 ·rw[List.pairwise_append];refine⟨h.apart,List.pairwise_singleton _ _,fun x hx y hy=>?_⟩;rcases List.mem_singleton.1 hy with rfl;intro e;have:=(h.mem x hx).2.2.2;dsimp only at e;rw[e,hl]at this;cases this
 ·by_cases e:q=r
  ·subst e;exact .inr ⟨_,List.mem_append.2 (.inr (List.mem_singleton.2 rfl)),rfl⟩
  ·rcases h.all q hq hnq with h3|⟨x,hx,e2⟩
   ·refine .inl ?_;have:(klit q).sameKey (klit r)=false:=by
     cases hs:(klit q).sameKey (klit r)
     ·rfl
     ·exact absurd (klit_inj hq hr (WideAt.sameKey_eq hs)) e
    rw[h3,this];rfl
   ·exact .inr ⟨x,List.mem_append.2 (.inl hx),e2⟩
 ·rw[Bool.and_eq_true]at hk;exact h.has k hk.1
theorem Coll.done {w:World}{b:Nat}{D:DT}{W:Int}{cs:List C2}{left:Lit→Bool}{ss ss':List (RowT w b)}(h:Coll D W cs left ss)(hl:∀kl,left kl=false)(hp:ss'.Perm ss)(hs:ss'.Pairwise fun x y=>¬cR8 y.1.2.r x.1.2.r<0):OrderedOf W cs (ss'.map fun x=>x.1.2):=by
 have hap:ss'.Pairwise fun x y=>x.1.2.r≠y.1.2.r:=(hp.pairwise_iff (fun{_ _} hne=>Ne.symm hne)).2 h.apart;have hapM:(ss'.map fun x=>x.1.2).Pairwise fun x y=>x.r≠y.r:=List.pairwise_map.2 hap;refine⟨?_,fun c hc=>?_,fun r hr=>?_⟩
 ·refine List.pairwise_map.2 ?_;rw[List.pairwise_iff_getElem]at hap hs⊢;exact fun i j hi hj hij=>gt_of (hs i j hi hj hij) (fun e=>hap i j hi hj hij e.symm)
 ·obtain⟨x,hx,rfl⟩:=List.mem_map.1 hc;obtain⟨g1,g2,g3,_⟩:=h.mem x (hp.mem_iff.1 hx);exact⟨g3,g1⟩
 ·by_cases hn:totC cs r=0
  ·rw[hn];refine totC_none fun c hc e=>?_;obtain⟨x,hx,rfl⟩:=List.mem_map.1 hc;obtain⟨_,g2,g3,_⟩:=h.mem x (hp.mem_iff.1 hx);rw[e,hn]at g2;exact g3 g2
  ·rcases h.all r hr hn with h3|⟨x,hx,rfl⟩
   ·rw[hl]at h3;cases h3
   ·rw[totC_mem (c:=x.1.2) hapM (List.mem_map.2 ⟨x,hp.mem_iff.2 hx,rfl⟩)];exact(h.mem x hx).2.1
end
section
open Go Go.RowKit
section
variable {P:Program}
def KeptBut (O:Nat→Prop)(A B:World):Prop:=A.heap.size≤B.heap.size∧∀k,k<A.heap.size→¬O k→B.heap[k]?=A.heap[k]?
structure SameOn (X:Nat→Prop)(A B:World):Prop where
 os:B.os=A.os
 tape:B.tape=A.tape
 output:B.output=A.output
 size:A.heap.size≤B.heap.size
 block:∀k,k<A.heap.size→X k→B.heap[k]?=A.heap[k]?
theorem SameOn.putObj {X:Nat→Prop}{A:World}{l:Nat}(o:Obj)(h:¬X l):SameOn X A (A.putObj l o):=
 ⟨rfl,rfl,rfl,by simp[World.putObj],fun k _ hk=>World.putObj_heap_other (fun e=>h (by rw[←e];exact hk))⟩
theorem SameOn.of_below {X:Nat→Prop}{A B:World}(h:Below A.heap.size A B):SameOn X A B:=⟨h.os,h.tape,h.output,h.size,fun k hk _=>h.block k hk⟩
theorem SameOn.trans {X:Nat→Prop}{A B C:World}(h:SameOn X A B)(k:SameOn X B C):SameOn X A C:=
 ⟨k.os.trans h.os,k.tape.trans h.tape,k.output.trans h.output,Nat.le_trans h.size k.size,fun i hi hX=>(k.block i (Nat.lt_of_lt_of_le hi h.size) hX).trans (h.block i hi hX)⟩
theorem KeptBut.trans {O O':Nat→Prop}{A B C:World}(h:KeptBut O A B)(k:KeptBut O' B C)(hO:∀i,O' i→O i∨A.heap.size≤i):KeptBut O A C:=
 ⟨Nat.le_trans h.1 k.1,fun i hi hn=>(k.2 i (Nat.lt_of_lt_of_le hi h.1) (fun e=>by rcases hO i e with h1|h1;exact hn h1;omega)).trans (h.2 i hi hn)⟩
def SeqAll {α:Type}(P:Program)(gf:Nat)(recv:Value)(encs:α→Array Value)(Nm:Nat)(S:List α→Prop)(w:World):Prop:=
 ∀ (l:Nat) (J:List α→(Nat→Prop)→World→Prop) (W:World),Below w.heap.size w W→ (∀pre O A B,J pre O A→SameOn (fun k=>k<W.heap.size∨O k) A B→J pre O B)→ (∀pre O x W1,J pre O W1→pre.length<Nm→YieldAt Fence.wide 0 P l (encs x) W1 fun e W'=>e=.returned (.bool true)∧∃O',J (pre++ [x]) O' W'∧KeptBut O W1 W'∧∀k,O' k→O k∨W1.heap.size≤k)→ ∀O,J [] O W→(∀k,O k→k<W.heap.size)→ CallsIn Fence.wide 0 P gf #[recv,.func (.yield l) #[] #[]] W fun e W'=>(∃v,e=.returned v)∧∃xs O',S xs∧J xs O' W'
def goesOn {α:Type}(I:List α→(Nat→Prop)→World→Prop)(xs:List α)(O:Nat→Prop)(W:World):Exit→Act→World→Prop
 | .normal,_,W'=> ∃O',I xs O' W'∧KeptBut O W W'∧∀k,O' k→O k∨W.heap.size≤k
 |_,_,_=>False
theorem rangeBound {α:Type}{g:Operand}{ps:Array Tmp}{assign body:Code}{Q:Exit→Act→World→Prop}{a:Act}{w:World}{gf:Nat}{recv:Value}(hg:a.eval g=.func (.func gf) #[recv] #[]) (eg:∀args w,(callFunc gf args).run P w=.ok (.enter gf args) w){encs:α→Array Value} {Nm:Nat} {S:List α→Prop} (hseq:SeqAll P gf recv encs Nm S w) (hps:∀x,(encs x).size=ps.size)(I:List α→(Nat→Prop)→World→Prop) (hI:∀pre O A B,I pre O A→SameOn (fun k=>k<w.heap.size∨O k) A B→I pre O B) (O₀:Nat→Prop) (hO₀:∀k,O₀ k→k<w.heap.size) (h0:I [] O₀ w)(Ax:α→(Nat→Prop)→Act→World→Prop) (hAx:∀x O a' A o,Ax x O a' A→Ax x O a' (A.putObj (w.heap.size+1) o))(hassign:∀ (l:Nat) (pre:List α) (O:Nat→Prop) (x:α) (W:World) (K:Act→World→Prop),I pre O W→w.heap.size+2≤W.heap.size→(∀a' W',KeptBut O W W'→I pre O W'→Ax x O a' W'→K a' W')→
   assign.wpIn (Fence.wide.inRound l) 0 P (Exit.then K (fun _ _ _=>False)) {tmps:=(ps.zip (encs x)).foldl (fun t (p,v)=>t.setIfInBounds p v) a.tmps,defers:=[]} W)
  (hbody:∀ (l:Nat) (pre:List α) (O:Nat→Prop) (x:α) (a':Act) (W:World),I pre O W→Ax x O a' W→w.heap.size+2≤W.heap.size→pre.length<Nm→body.wpIn (Fence.wide.inRound l) 0 P (goesOn I (pre++ [x]) O W) a' W)
  (hdone:∀ (D:Nat) (xs:List α) (O:Nat→Prop) (W:World),w.heap.size≤D→(∀k,O k→k≠D)→S xs→I xs O W→W.heap[D]?=some (.deferred (some []))→Q .normal {a with defers:={target:=.collected D,args:=#[]}::a.defers} W):
  (Code.rangeFunc g ps assign body).wpIn Fence.wide 0 P Q a w:=by
 refine wpIn_rangeFunc fun fn hfn=>?_;obtain⟨L,hL⟩:∃L:LoopState→Loop,L=fun st=>{state:=st,pending:=none,fn,tmps:=a.tmps,params:=ps,assign,body,defers:=w.heap.size}:=⟨_,rfl⟩;obtain⟨W1,hW1⟩:∃W1,(w.alloc (.deferred (some []))).alloc (.loop (L .ready))=W1:=⟨_,rfl⟩;have hs1:W1.heap.size=w.heap.size+2:=by rw[←hW1];simp
 have hloop:W1.heap[w.heap.size+1]?=some (.loop (L .ready)):=by
  rw[←hW1];have:=World.alloc_heap_new (w.alloc (.deferred (some []))) (.loop (L .ready))
  rwa [World.size_alloc]at this
 have hdef:W1.heap[w.heap.size]?=some (.deferred (some [])):=by
  rw[←hW1];exact(bA8 _ _ _ (by simp)).trans (World.alloc_heap_new w _)
 have hb1:Below w.heap.size w W1:=by rw[←hW1];exact((Below.refl _ w).alloc (Nat.le_refl _) _).alloc (by simp) _
 have hI1:I [] O₀ W1:=hI _ _ _ _ h0 (SameOn.of_below hb1);refine⟨w.heap.size+1,[{target:=.collected w.heap.size,args:=#[]}],W1,{target:=.fn (.func gf) #[],args:=#[recv,.func (.yield (w.heap.size+1)) #[] #[]]},W1,gf,#[recv,.func (.yield (w.heap.size+1)) #[] #[]],W1,?_,?_,fun _ _=>trivial,?_,fun h=>(by cases h),?_⟩
 ·rw[←hW1,hL];exact run_enterLoop_outer _ _ _ _ _
 ·simp only[resolve,hg];simp[go_sem]
 ·simp[invoke,go_sem,eg]
 refine(hseq (w.heap.size+1) (fun pre O W=> ∃O1,I pre O1 W∧W.heap[w.heap.size+1]?=some (.loop (L .ready))∧W.heap[w.heap.size]?=some (.deferred (some []))∧(∀k,O1 k→k<w.heap.size∨w.heap.size+2≤k)∧O=fun k=>O1 k∨k=w.heap.size+1) W1 hb1 ?_ ?_ _ ⟨O₀,hI1,hloop,hdef,fun k hk=> .inl (hO₀ k hk),rfl⟩ ?_).mono ?_
 ·rintro pre O A B ⟨O1,hi,hl,hd,hO1,rfl⟩ hs;refine⟨O1,hI _ _ _ _ hi ⟨hs.os,hs.tape,hs.output,hs.size,fun k hk hX=>hs.block k hk ?_⟩,?_,?_,hO1,rfl⟩
  ·rcases hX with h|h
   ·exact .inl (by omega)
   ·exact .inr (.inl h)
  ·exact(hs.block _ (Array.getElem?_eq_some_iff.1 hl).1 (.inl (by omega))).trans hl
  ·exact(hs.block _ (Array.getElem?_eq_some_iff.1 hd).1 (.inl (by omega))).trans hd
 ·rintro pre O x W ⟨O1,hi,hl,hk,hO1,rfl⟩ hNm;have hlt:w.heap.size+1<W.heap.size:=(Array.getElem?_eq_some_iff.1 hl).1;have hno:¬ (w.heap.size+1<w.heap.size∨O1 (w.heap.size+1)):=fun h=>by
   rcases h with h|h
   ·omega
   ·have:=hO1 _ h;omega
  have hnd:¬O1 w.heap.size:=fun h=>by have:=hO1 _ h;omega
  have hy:=run_yield (P:=P) (args:=encs x) hl (by rw[hL];exact hps x);rw[hL]at hy;refine⟨fn,_,assign,body,hy,roundIn_of_wpIn hfn (hassign _ pre O1 x W _ hi (by omega) fun a2 W2 hk2 hi2 hx2=>?_)⟩;have hl2:W2.heap[w.heap.size+1]?=some (.loop (L .ready)):=(hk2.2 _ hlt (fun h=>hno (.inr h))).trans hl;have hd2:W2.heap[w.heap.size]?=some (.deferred (some [])):=(hk2.2 _ (by omega) hnd).trans hk;have hlt2:w.heap.size+1<W2.heap.size:=(Array.getElem?_eq_some_iff.1 hl2).1;refine⟨_,run_beginRound hl2 (by rw[hL]),?_⟩;have hi3:I pre O1 (W2.putObj (w.heap.size+1) (.loop {L .ready with state:=.busy})):=hI _ _ _ _ hi2 (SameOn.putObj _ hno);have hx3:=hAx x O1 a2 W2 (.loop {L .ready with state:=.busy}) hx2;obtain⟨W3,hW3⟩:∃W3,W2.putObj (w.heap.size+1) (.loop {L .ready with state:=.busy})=W3:=⟨_,rfl⟩;rw[hW3]at hi3 hx3⊢;have hs3:W3.heap.size=W2.heap.size:=by rw[←hW3];simp[World.putObj]
  have hl3:W3.heap[w.heap.size+1]?=some (.loop {L .ready with state:=.busy}):=by rw[←hW3];exact World.putObj_heap_same hlt2
  have ho3:∀k,k≠w.heap.size+1→W3.heap[k]?=W2.heap[k]?:=fun k hk=>by rw[←hW3];exact World.putObj_heap_other hk
  have hd3:W3.heap[w.heap.size]?=some (.deferred (some [])):=(ho3 _ (by omega)).trans hd2;refine wpIn_mono (hbody _ pre O1 x a2 W3 hi3 hx3 (by omega) hNm) fun e a4 W4 hp=>?_;cases e with
  |normal=>
   obtain⟨O2,hi4,hk4,hO2⟩:=hp;have hl4:W4.heap[w.heap.size+1]?=some (.loop {L .ready with state:=.busy}):=(hk4.2 _ (by omega) (fun h=>hno (.inr h))).trans hl3;have hd4:W4.heap[w.heap.size]?=some (.deferred (some [])):=(hk4.2 _ (by omega) hnd).trans hd3;have hlt4:w.heap.size+1<W4.heap.size:=(Array.getElem?_eq_some_iff.1 hl4).1;have hend:=run_endRound (P:=P) none hl4;have e0:({({L .ready with state:=.busy}:Loop)with state:=if(none:Option Code).isNone then .ready else .done,pending:=none}:Loop)=L .ready:=by rw[hL];rfl
   rw[e0]at hend;have hO2':∀k,O2 k→k<w.heap.size∨w.heap.size+2≤k:=fun k hk=>by
    rcases hO2 k hk with h|h
    ·exact hO1 k h
    ·omega
   refine⟨_,_,hend,rfl,_,⟨O2,hI _ _ _ _ hi4 (SameOn.putObj _ ?_),World.putObj_heap_same hlt4,(World.putObj_heap_other (by omega)).trans hd4,hO2',rfl⟩,⟨?_,fun k hk hn=>?_⟩,fun k hk=>?_⟩
   ·rintro(h|h)
    ·omega
    ·have:=hO2' _ h;omega
   ·have:=hk2.1;have:=hk4.1;simp[World.putObj];omega
   ·have hkl:k≠w.heap.size+1:=fun e=>hn (.inr e);have hk1:¬O1 k:=fun h=>hn (.inl h);rw[World.putObj_heap_other hkl,hk4.2 k (by have:=hk2.1;omega) hk1,ho3 k hkl,hk2.2 k hk hk1]
   ·rcases hk with h|h
    ·rcases hO2 k h with h|h
     ·exact .inl (.inl h)
     ·exact .inr (by have:=hk2.1;omega)
    ·exact .inl (.inr h)
  |ret=>exact hp.elim
  |exit id=>exact hp.elim
  |goto t=>exact hp.elim
  |panic ch=>exact hp.elim
  |outgrown=>exact hp.elim
 ·rintro k (h|h)
  ·have:=hO₀ k h;omega
  ·omega
 ·rintro e W2 ⟨⟨v,rfl⟩,xs,O,hS,O1,hi,hl,hk,hO1,rfl⟩;have hend:=run_endLoop (P:=P) hl (by rw[hL];simp);have hp:(L .ready).pending=none:=by rw[hL]
  rw[hp]at hend;refine⟨none,_,hend,?_⟩;exact hdone _ xs O1 _ (Nat.le_refl _) (fun k h e=>by have:=hO1 k h;omega) hS (hI _ _ _ _ hi (SameOn.putObj _ (by rintro(h|h);omega;have:=hO1 _ h;omega))) ((World.putObj_heap_other (by omega)).trans hk)
theorem uponIn_of {o:Oper}{a:Act}{K:Act→World→Prop}{Q:Exit→Act→World→Prop}{l:Nat}{r:Result Next}(h:o.upon P a K Q r):o.uponIn (Fence.wide.inRound l) 0 P a K Q r:=by
 unfold Oper.upon at h;split at h
 ·exact h
 ·exact h
 ·exact h
 ·exact⟨fun h=>(by cases h),CallsIn.inRound l (callsIn_wide.2 h)⟩
 ·refine⟨fun h=>(by cases h),fun c cs _=>?_⟩;obtain⟨v,w',r1,r2⟩:=h c cs;exact⟨v,w',r1,stepsIn_wide.2 r2⟩
 ·exact h
 ·exact h.elim
def noDefer (ops:Array Oper):Bool:=ops.all fun o=>match o.op with| .defer _=>false|_=>true
theorem noDefer_spec {ops:Array Oper}(h:noDefer ops=true){i:Nat}{o:Oper}(ho:ops[i]?=some o)(c:Call):o.op≠Op.defer c:=fun e=>by
 obtain⟨hi,rfl⟩:=Array.getElem?_eq_some_iff.1 ho;have:=(Array.all_eq_true.1 h) i hi;rw[e]at this;cases this
theorem wpAnyIn_of {md:Region.Mode}{ops:Array Oper}{Q:Exit→Act→World→Prop}{l:Nat}(hd:noDefer ops=true)(hQ:¬LetsOut Q):∀ (fuel:Nat) (listed:Array Bool) (a:Act) (w:World),wpAny P md ops Q fuel listed a w→wpAnyIn (Fence.wide.inRound l) 0 P md ops Q fuel listed a w
 |0,_,_,_,h=>h
 |fuel+1,listed,a,w,h=>⟨h.1,fun i hi=>by
   have h2:=h.2 i hi;unfold wpOp at h2;unfold wpOpIn;cases ho:ops[i]? with
   |none=>
    simp only[ho]at h2⊢;exact wpAnyIn_of hd hQ fuel _ a w h2
   |some o=>
    simp only[ho]at h2⊢;split
    ·rename_i hw
     rw[if_pos hw]at h2;rcases h2 with h2|h2
     ·refine⟨fun _ _=>trivial,?_⟩;rw[Oper.semAt_plain _ _ _ (noDefer_spec hd ho)];exact uponIn_of (Oper.wp_mono (fun a' w' h'=>wpAnyIn_of hd hQ fuel _ a' w' h') h2)
     ·exact absurd h2.2 hQ
    ·rename_i hw
     rw[if_neg hw]at h2;exact⟨fun _ _=>trivial,wpAnyIn_of hd hQ fuel _ _ w h2⟩⟩
theorem startR {id:Nat}{ops:Array Oper}{Q:Exit→Act→World→Prop}{a:Act}{w:World}{l:Nat}(z:Nat)(S:World→Prop)(hd:noDefer ops=true)(hQ:¬LetsOut Q)(hm:P.follows .mixedOrders=true)(hS:S w.drew)(h:S w.drew→wpAnyE P .any ops Q S z ops.size (Array.replicate ops.size false) a w.drew):(Code.region id ops true).wpIn (Fence.wide.inRound l) 0 P Q a w:=
 wpIn_region_any hm (wpAnyIn_of hd hQ _ _ _ _ (wpAny_of_E _ _ _ _ (h hS)))
end
end
section
open Go.RowKit Go.Shelf
def flatT {w:World}{b:Nat}(ss:List (RowT w b)):List Value:=ss.flatMap encT
theorem flatT_snoc {w:World}{b:Nat}(ss:List (RowT w b))(x:RowT w b):flatT (ss++ [x])=flatT ss++ [x.1.1,.int .i64 x.1.2.n]:=by
 unfold flatT;rw[List.flatMap_append];simp[encT]
theorem flatT_at {w:World}{b:Nat}:∀ {ss:List (RowT w b)} {i:Nat} {x:RowT w b},ss[i]?=some x→(flatT ss)[i*2]?=some x.1.1∧(flatT ss)[i*2+1]?=some (.int .i64 x.1.2.n)
 |y::ss,0,x,h=>by
  obtain rfl:y=x:=by simpa using h
  constructor<;>simp[flatT,encT]
 |y::ss,i+1,x,h=>by
  have ih:=flatT_at (ss:=ss) (i:=i) (x:=x) (by simpa using h);have e:flatT (y::ss)=y.1.1:: .int .i64 y.1.2.n::flatT ss:=by unfold flatT;rw[List.flatMap_cons];rfl
  rw[e,show(i+1)*2=i*2+1+1 by omega]
  simpa using ih
theorem infoCntT:(Tryz.prog.info? 96).map (fun i=>(i.zero,i.size,i.bytes))=some (some (.agg #[.slice none 0 0,.int .i64 0]),2,32):=by kernel_rfl
structure VT where
 a:Option Addr
 l:Nat
 c:Nat
 n:Int
theorem own_cells {w:World}{N e n g cap:Nat}{xs:List Value}(h:w.ownsRow N e 2 (.slice (some ⟨g,0,none⟩) n cap) n xs):g<w.heap.size∧N≤g∧(∀i u,xs[i]?=some u→w.cell? ⟨g,i,none⟩=some u)∧∀o,w.frozen? ⟨g,o,none⟩=false:=by
 obtain⟨hl,h⟩:=h;rcases h with⟨h,_⟩|⟨g',cap',cur,e1,hN,hb,h1,h2,h3,h4⟩
 ·cases h
 ·obtain⟨rfl,rfl⟩:g=g'∧cap=cap':=by injection e1 with e2 _ e3;injection e2 with e4;injection e4 with e5;exact⟨e5,e3⟩
  refine⟨(Array.getElem?_eq_some_iff.1 hb).1,hN,fun i u hu=>?_,fun o=>by simp[World.frozen?,hb]⟩;rw[←h4,List.getElem?_take]at hu;split at hu
  ·simp only[World.cell?,hb]
   simpa using hu
  ·cases hu
theorem asc_seq (b B n:Nat)(W:Int)(cs:List C2)(w:World)(hT:TalAt w b B n W cs)(hB:B≤w.heap.size)(hn:n≤4194304)(hW:W≤1048576):SeqAll Tryz.prog 138 (.map (some b)) (fun x:RowT w B=>#[.agg #[x.1.1,.int .i64 x.1.2.n]]) 4194304 (fun xs=>OrderedOf W cs (xs.map fun x=>x.1.2)) w:=by
 intro l J U hU hJ hY O hJ0 hO;have hlb:=hT.lt;obtain⟨D,hown0,hTD⟩:=hT;have hown:U.ownsMap Tryz.prog 9 Rc b n D:=hown0.kept (row:=none) ⟨hU.os,hU.tape,hU.output,hU.size,fun k hk _=>hU.block k hk⟩ (by simp);have hsz:=hown.size_le;obtain⟨i0,hi,hz0,hz1,hz2⟩:=info_parts infoCntT;have hbU:b<U.heap.size:=Nat.lt_of_lt_of_le hlb hU.size;refine callsIn_wide.2 ?_;go_enter Tryz.func138,Tryz.ntmps138;go_wp2_with(first
  |(at_len;refine wpList_len_own _ rfl _ 174 rfl 9 96 Tryz.underlying174 _ b n D rfl hown ?_)
  |(at_make;refine wpList_make_own _ rfl _ _ 58 rfl U.heap.size 96 i0 _ 2 Tryz.underlying58 hi hz0 hz1 .i64 .i64 _ (Maps.size D) rfl rfl rfl (by rw[hz2];omega) (by unfold maxLen;omega) (Nat.le_refl _) ?_;intro w1 hrow1 hg1)
  |(at_range;refine wpList_range_own _ rfl _ 174 rfl 9 96 (Maps.string_keyed Tryz.underlying9) Tryz.underlying174 _ b n D rfl (hown.kept hg1 (by simp)) ?_;intro w2 hrg2 hg2 hs2))
 have hs1:=hg1.size;have hb2:Below U.heap.size U w2:=((Below.refl _ U).grown hg1 (Nat.le_refl _) (fun k e=>by cases e)).grown hg2 hs1 (fun k e=>by cases e);have hrow2:=oK8 hrow1 (fun k hk=>hg2.block k (oL8 hrow1 k hk).2 (by simp));have invK:∀key kl,keyOf Tryz.prog 9 key=some kl→∃x:ByteArray,key=Value.string x:=fun key kl h=>by
  obtain⟨s,e,_⟩:=WideMaps.string_of_keyOf Tryz.underlying9 h;exact⟨s,e⟩
 have invV:∀v y,Rc v=some y→∃p:VT,v=.agg #[.slice p.a p.l p.c,.int .i64 p.n]:=fun v y h=>by
  obtain⟨a,l,c,m,e,_⟩:=Rc_inv h;exact⟨⟨a,l,c,m⟩,e⟩
 obtain⟨r,hr⟩:∃r,w1.heap.size=r:=⟨_,rfl⟩;rw[hr]at hrg2⊢;have hrU:U.heap.size≤r:=by omega
 clear hrow1 hg1 hg2 hs2 hs1 hown hown0 hr hsz;go_loopw [4] (fun y wr=> ∃ (left:Lit→Bool) (cnt:Nat) (ss:List (RowT w B)) (g cap:Nat),y=.slice (some ⟨g,0,none⟩) ss.length cap∧wr.ranges Tryz.prog 9 Rc b r n D left cnt∧wr.ownsRow U.heap.size 96 2 (.slice (some ⟨g,0,none⟩) ss.length cap) ss.length (flatT ss)∧Below U.heap.size U wr∧Coll D W cs left ss∧ss.length+cnt≤n) (fun _ wr=>wr.rangeLeft b r)
 case atStart=>exact⟨_,_,[],_,_,rfl,hrg2,hrow2,hb2,Coll.start hTD,by have:=hrg2.owns.size_le;simpa using this⟩
 case round=>
  obtain⟨left,cnt,ss,g,cap,rfl,hrg,hrow,hb,hC,hcn⟩:=hrel;clear hrg2 hrow2 hb2;obtain⟨hgl,hgN,hcell,hfrz⟩:=own_cells hrow;have hzb:=hb.size;have hgb:b≠g:=by omega
  have hgr:r≠g:=by
   rintro rfl;obtain⟨o,ho,hw⟩:=hrg.iter_walk;rcases hrow.2 with⟨e,_⟩|⟨g',_,cur,e,_,hc,_⟩
   ·cases e
   ·injection e with e1;injection e1 with e2;injection e2 with e3;rw[←e3,ho]at hc;cases hc;cases hw
  have hUs:=hb.size;go_wp2_with(first
   |(at_next;refine wpList_next_ranges _ rfl _ rfl 9 (Maps.string_keyed Tryz.underlying9) Rc (fun s:ByteArray=>Value.string s) (fun p:VT=>Value.agg #[.slice p.a p.l p.c,.int .i64 p.n]) invK invV b r n D left cnt rfl hrg (fun hc0 hl0=>?_) (fun kx p kl y w3 cnt3 hkey hlk hRv hat hrg3 hlt3 hg3 hs3 hen=>?_))
   |(at_builtin;refine wpList_append_own _ rfl _ _ 58 rfl U.heap.size 96 i0 _ 2 32 Tryz.underlying58 hi hz0 hz1 hz2 rfl (by decide) (.slice (some ⟨g,0,none⟩) ss.length cap) ss.length (flatT ss) rfl ?hown ⟨wr.heap.size+1,0,none⟩ 1 1 [.slice p.a p.l p.c,.int .i64 p.n] rfl rfl ?c1 ?c2 ?c3 ?c4 ?c5 ?_))
  case hown=>
   refine oK8 hrow fun k hk=>?_;have h1:=oL8 hrow k hk;rw[bA8 _ _ _ (by simp;omega),bA8 _ _ _ (by omega)];exact hg3.block k h1.2 (by simp only[Value.ownBlock,Option.some.injEq]at hk;subst hk;simp only[ne_eq,Option.some.injEq];exact fun e=>hgr e.symm)
  case c1=>
   intro j' u hu
   match j',hu with
   |0,hu=>simp at hu;subst hu;go_simp
   |1,hu=>simp at hu;subst hu;go_simp
  case c2=>intro u hu;simp at hu;rcases hu with rfl|rfl<;>rfl
  case c3=>unfold maxLen;omega
  case c4=>omega
  case c5=>simp;omega
  ·have hbw:Below B w wr:=(hU.mono hB).trans (hb.mono (Nat.le_trans hB hU.size));have hsort:=sortT_any w wr B g cap hbw (by have:=hU.size;omega) hgl ss (by omega) (fun i x hx=>⟨hcell _ _ (flatT_at hx).1,hcell _ _ (flatT_at hx).2⟩) hfrz;refine cM8 hsort ?_;rintro e w5 ⟨rfl,xs,hp,hs,hxc,ho1,ho2,ho3,hsz5,hbl5⟩;have hord:=hC.done hl0 hp hs;have hxl:Hid (xs.length=ss.length):=hp.length_eq;have hJ5:J [] O w5:=hJ _ _ _ _ hJ0 ⟨ho1.trans hb.os,ho2.trans hb.tape,ho3.trans hb.output,Nat.le_trans hUs hsz5,fun k hk _=>(hbl5 k (by omega) (by omega)).trans (hb.block k hk)⟩;have hg5:g<w5.heap.size:=by omega
   have hOg:¬O g:=fun h=>by have:=hO g h;omega
   clear hsort hC hrow hcell hfrz hrg hp hs hbl5 ho1 ho2 ho3 hbw hc0 hl0;go_wp2_with fail;refine(wpIn_wide (n:=0)).1 ?_
   gi_loopw [26] (fun i wr=> ∃ (k:Nat) (O2:Nat→Prop),k≤ss.length∧i=.int .i64 k∧J (xs.take k) O2 wr∧wr.heap[g]?=w5.heap[g]?∧¬O2 g∧g<wr.heap.size) (fun i _=>ss.length - (intOf i).toNat)
   case atStart=>exact⟨0,O,Nat.zero_le _,rfl,hJ5,rfl,hOg,hg5⟩
   case round=>
    obtain⟨k,O2,hk,rfl,hJk,hgk,hO2,hgl2⟩:=hrel;by_cases hlt:k<ss.length
    ·have hkx:k<xs.length:=by rw[hxl.out];exact hlt
     obtain⟨x,hx⟩:∃x,xs[k]?=some x:=⟨xs[k],by simp⟩;have HT:Hid (xs.take (k+1)=xs.take k++ [x]):=take_snoc hx;obtain⟨c0,c1⟩:=hxc k x hx;replace c0:=(cb8 hgk).trans c0;replace c1:=(cb8 hgk).trans c1;obtain⟨⟨u,rr,nn⟩,hxB⟩:=x;obtain⟨ua,uc,hu⟩:∃a c,u=.slice a rr.length c:=by obtain⟨⟨_,⟨a,c,e,_⟩,_⟩,_⟩:=hxB;exact⟨a,c,e⟩
     dsimp only at c0 c1;subst hu;have hJ1:=hJ _ _ _ (wr.alloc (.cells #[.slice ua rr.length uc,.int .i64 nn] 96)) hJk (SameOn.of_below ((Below.refl _ _).alloc (Nat.le_refl _) _));obtain⟨fn,tmps,assign,body,hy,hR⟩:=hY _ _ ⟨(.slice ua rr.length uc,⟨rr,nn⟩),hxB⟩ _ hJ1 (by rw[List.length_take];omega);dsimp only at hy;clear hJk hJ5 hJ0 hx hxc
     gi_wp2
     refine⟨rfl,hR.mono ?_⟩;rintro e W3 ⟨rfl,O3,hJ3,hkept,hO3⟩;have hs3:=hkept.1;simp only[World.size_alloc]at hs3;have hg3:W3.heap[g]?=w5.heap[g]?:=(hkept.2 g (by simp;omega) hO2).trans ((bA8 wr _ g hgl2).trans hgk);have hO3g:¬O3 g:=fun h=>by
      rcases hO3 g h with h|h
      ·exact hO2 h
      ·simp at h;omega
     clear hkept hO3 hR hy hJ1
     gi_wp2
     go_roundw
     case rel=>exact⟨k+1,O3,hlt,by simp,by rw[HT.out];exact hJ3,hg3,hO3g,by omega⟩
     case measure=>simp[intOf];omega
    ·obtain rfl:k=ss.length:=by omega
     rw[←hxl.out,List.take_length]at hJk;clear hJ5 hJ0 hxc hY
     gi_wp2
     go_end0
     exact⟨⟨_,rfl⟩,xs,O2,hord,hJk⟩
  ·intro v4 w4 hown4 hgrow4 _;obtain⟨x,hx1,hx2,hC3⟩:=Coll.next hTD hW hC hlk (a:=p.a) (l:=p.l) (c:=p.c) (m:=p.n) (fun z=>by rw[hat z];have e:=(Rc_mk p.a p.l p.c p.n).symm.trans hRv;exact(congrArg Prod.fst (Option.some.inj e)).symm);obtain⟨g4,cap4,rfl⟩:=ownsRow_succ hown4;have hlen:(ss++ [x]).length=ss.length+1:=by simp
   have hfl:flatT ss++ [.slice p.a p.l p.c,.int .i64 p.n]=flatT (ss++ [x]):=by rw[flatT_snoc,hx1,hx2]
   rw[hfl]at hown4;have hrg4:=(((hrg3.alloc (.cells #[.slice p.a p.l p.c,.int .i64 p.n] 96)).alloc (.cells #[.slice p.a p.l p.c,.int .i64 p.n] 96)).kept hgrow4 (by simp[Value.ownBlock];exact hgb) (by simp[Value.ownBlock];exact hgr));have hb3:Below U.heap.size U w3:=hb.grown hg3 hzb (fun k e=>by simp at e;omega);have hb4:Below U.heap.size U w4:=((hb3.alloc (by omega) _).alloc (by simp;omega) _).grown hgrow4 (by simp;omega) (fun k e=>by simp[Value.ownBlock]at e;omega);have hmold:=hrg.left_eq;clear hrow hcell hfrz hC hrg hrg3 hg3 hb3 hgrow4 hat hRv hkey;go_wp2_with fail;refine⟨⟨_,cnt3,ss++ [x],g4,cap4,by rw[hlen],hrg4,by rw[hlen];exact hown4,hb4,hC3,by rw[hlen];omega⟩,?_⟩;rw[hrg4.left_eq,hmold];exact hlt3
end
end Go.Proofs.YtflokiejcjjbiaaGreat
