/- Own texts, joined: contracts that the law's proof goes by. -/
import Derived.Test.YteekfcdllaceoaaGreatDoorGLAnswer4
import Derived.Handy
import Derived.LaidEql
import Derived.WideKeyRuns
import Derived.MapKept
import Derived.Carry
import Derived.Test.YteekfcdllaceoaaGreatDoorGLAnswer1
import Derived.Deep.RegionHeld3
import Derived.Deep.QuietTactic
import Derived.BigQuiet
import Derived.Deep.AppendLies
import Derived.WideMake
set_option maxHeartbeats 16000000
set_option maxRecDepth 100000
set_option linter.unusedVariables false
set_option linter.unusedSimpArgs false
namespace Go.Proofs.YteekfcdllaceoaaGreatDoor
section
open Go.RowKit
theorem B7I (w:World){a b:Addr}(hne:a≠b)(ha:Fr w a.block)(hb:Fr w b.block)(d:Nat):(Op.equalIn (d+1) 206 (.pointer (some a)) (.pointer (some b))).run Tryz.prog w=.ok false w:=by
 have hp:Tryz.prog.underlying 206=some (.pointer 42):=by kernel_rfl
 obtain⟨j,hte,hsz⟩:∃j,Tryz.prog.info? 42=some j/\j.size=7:=by
  have:(Tryz.prog.info? 42).map (fun i=>i.size)=some 7:=by kernel_rfl
  obtain⟨j,h1,h2⟩:=Option.map_eq_some_iff.1 this;exact⟨j,h1,h2⟩
 have h7:j.size≠0:=by omega
 simp[Op.equalIn,run_underlying hp,sizeOf,typeInfo,hte,h7,A7y w hne ha hb]
theorem B5s (w:World){a b a' b':Addr}(hne:a≠b)(ha:Fr w a.block)(hb:Fr w b.block):(Op.equal 230 (.agg #[.pointer (some a),.pointer (some a')]) (.agg #[.pointer (some b),.pointer (some b')])).run Tryz.prog w=.ok false w:=by
 have hS:Tryz.prog.underlying 230=some (.struct (Tryz.prog.fieldsOf 230)):=by kernel_rfl
 have hp:Tryz.prog.stoodInHeld 230=false:=by kernel_rfl
 have u3:=Tryz.underlying206;have a3:=Tryz.isAgg206;have z3:=Tryz.sizeOf206;have hn:=B7I w hne ha hb 9998;unfold Op.equal Op.maxDepth;rw[show(10000:Nat)=9999+1 from rfl,run_equalIn_agg w 9999 _ _ _ hS hp];simp only[Program.fieldsOf,Tryz.underlying230];go_simp
theorem A8s (w:World){p q:Addr}(hp:Fr w p.block):∀ (es:List MapEntry) (i:Nat),(∀e∈es,∃a a',e.key=.agg #[.pointer (some a),.pointer (some a')]/\p≠a/\Fr w a.block)->
  (Instr.findAsking 230 (.agg #[.pointer (some p),.pointer (some q)]) es i).run Tryz.prog w=.ok none w
 | [],i,_=>by simp[Instr.findAsking]
 |e::es,i,h=>by
  obtain⟨a,a',he,hne,hF⟩:=h e List.mem_cons_self;have h1:=B5s w (a:=p) (b:=a) (a':=q) (b':=a') hne hp hF;simp[Instr.findAsking,he,h1,A8s w hp es (i+1) fun e' he'=>h e' (List.mem_cons_of_mem _ he')]
theorem B6v (w:World)(em:Bool)(n:Nat)(a:Addr):(Instr.checkKey em (n+1) 206 (.pointer (some a))).run Tryz.prog w=.ok () w:=by
 have hp:Tryz.prog.underlying 206=some (.pointer 42):=by kernel_rfl
 simp[Instr.checkKey,run_underlying hp]
theorem C0S (w:World)(em:Bool)(n:Nat)(p q:Addr):(Instr.checkKey em (n+2) 230 (.agg #[.pointer (some p),.pointer (some q)])).run Tryz.prog w=.ok () w:=by
 have hS:=Tryz.underlying230;have a3:=Tryz.isAgg206;have z3:=Tryz.sizeOf206;have hp1:(part 206 #[.pointer (some p),.pointer (some q)] 0).run Tryz.prog w=.ok (.pointer (some p)) w:=by go_simp
 have hp2:(part 206 #[.pointer (some p),.pointer (some q)] 1).run Tryz.prog w=.ok (.pointer (some q)) w:=by go_simp
 unfold Instr.checkKey;simp[run_underlying hS,hp1,hp2,B6v,Result.andThen]
theorem B0l (w:World)(em:Bool)(p q:Addr):(Instr.checkKey em 10000 230 (.agg #[.pointer (some p),.pointer (some q)])).run Tryz.prog w=.ok () w:=C0S w em 9998 p q
theorem B1Y (w:World){p q:Addr}(hp:Fr w p.block)(es:List MapEntry)(h:∀e∈es,∃a a',e.key=.agg #[.pointer (some a),.pointer (some a')]/\p≠a/\Fr w a.block):(Instr.findKey 230 (.agg #[.pointer (some p),.pointer (some q)]) es).run Tryz.prog w=.ok none w:=by
 rw[run_findKey_eq w (by kernel_rfl)];exact A8s w hp es 0 h
theorem B5K (w:World){B:Nat}{es:Array MapEntry}{ck:Nat}{p q:Addr}(hb:w.heap[B]?=some (.map es ck))(hp:Fr w p.block)(h:∀e∈es.toList,∃a a',e.key=.agg #[.pointer (some a),.pointer (some a')]/\p≠a/\Fr w a.block):Sem.run Tryz.prog (Instr.lookup 232 (.map (some B)) (.agg #[.pointer (some p),.pointer (some q)]) true) w=.ok (.tuple #[.int .i64 0,.bool false]) w:=by
 have hm:Tryz.prog.underlying 232=some (.map 230 3):=by kernel_rfl
 have hz:(zeroValue 3).run Tryz.prog w=.ok (.int .i64 0) w:=by go_simp
 simp[Instr.lookup,run_underlying hm,MapKept.run_getObj_map hb,B0l,B1Y w hp es.toList h,hz,Result.andThen]
theorem C3X (w:World){B:Nat}{es:Array MapEntry}{ck:Nat}{p q:Addr}{v:Value}(hb:w.heap[B]?=some (.map es ck))(hp:Fr w p.block)(h:∀e∈es.toList,∃a a',e.key=.agg #[.pointer (some a),.pointer (some a')]/\p≠a/\Fr w a.block):Sem.run Tryz.prog (Instr.mapUpdate 232 (.map (some B)) (.agg #[.pointer (some p),.pointer (some q)]) v) w=.ok () {w with heap:=w.heap.setIfInBounds B (.map (es.push ⟨.agg #[.pointer (some p),.pointer (some q)],v,ck⟩) (ck+1))}:=by
 have hm:Tryz.prog.underlying 232=some (.map 230 3):=by kernel_rfl
 simp[Instr.mapUpdate,run_underlying hm,MapKept.run_getObj_map hb,B0l,B1Y w hp es.toList h,MapKept.run_setObj_map _ hb,Result.andThen]
def p5 (w:World)(b:Nat)(e:E7)(u:Value):Prop:=
 b<w.heap.size/\w.cell? ⟨b,0,none⟩=some (.int .i64 e.k)/\w.cell? ⟨b,1,none⟩=some (.int .i64 e.n)/\w.cell? ⟨b,2,none⟩=some (.int .i64 e.v.k)/\w.cell? ⟨b,3,none⟩=some (.int .i64 e.v.n)/\w.cell? ⟨b,4,none⟩=some (.string e.v.s)/\w.cell? ⟨b,5,none⟩=some (.string e.p)/\w.cell? ⟨b,6,none⟩=some u
theorem p5.keep {w w':World}{b:Nat}{e:E7}{u:Value}(h:p5 w b e u)(hs:w.heap.size<=w'.heap.size)(hb:w'.heap[b]?=w.heap[b]?):p5 w' b e u:=by
 obtain⟨hl,h0,h1,h2,h3,h4,h5,h6⟩:=h;exact⟨Nat.lt_of_lt_of_le hl hs,(cb8 hb).trans h0,(cb8 hb).trans h1,(cb8 hb).trans h2,(cb8 hb).trans h3,(cb8 hb).trans h4,(cb8 hb).trans h5,(cb8 hb).trans h6⟩
theorem p5.below {w w':World}{b:Nat}{e:E7}{u:Value}(h:p5 w b e u)(hb:Below w.heap.size w w'):p5 w' b e u:=h.keep hb.size (hb.block b h.1)
theorem A7O (w:World)(e:E7)(u:Value)(t:TypeId):p5 (w.alloc (.cells #[.int .i64 e.k,.int .i64 e.n,.int .i64 e.v.k,.int .i64 e.v.n,.string e.v.s,.string e.p,u] t)) w.heap.size e u:=by
 refine⟨by simp,?_,?_,?_,?_,?_,?_,?_⟩<;>go_simp
theorem p5.cellsE {w:World}{b:Nat}{e:E7}{u:Value}(h:p5 w b e u):cellsE w b 0 e:=by
 obtain⟨hl,h0,h1,h2,h3,h4,h5,h6⟩:=h;exact⟨h0,h1,h2,h3,h4,h5⟩
theorem C1.cells {w:World}:∀ {d:Nat} {v:Value} {es:List E7} {F:List Nat},C1 w d v es F->∀b∈F,∃c t l,w.heap[b]?=some (.cells c t l)
 |0,_,_,_,h=>h.elim
 |d+1,v,es,F,h=>by
  obtain⟨a,c,G,rfl,_,_,hG,h0,h⟩:=h;by_cases hne:es=[]
  ·rw[h0 hne];intro b hb;cases hb
  obtain⟨b,o,rfl,hlt,rfl,hL⟩:=h hne;intro x hx;have hp:0<es.length:=List.length_pos_iff.2 hne;have hpG:0<G.length:=by omega
  rcases List.mem_cons.1 hx with rfl|hx
  ·obtain⟨_,⟨hc,_⟩,_⟩:=hL 0 es[0] G[0] (by simp) (by simp);exact A9G hc
  obtain⟨g,hg,hxg⟩:=List.mem_flatten.1 hx;obtain⟨i,hi,rfl⟩:=List.mem_iff_getElem.1 hg;have hi':i<es.length:=by omega
  obtain⟨_,_,u,_,hk⟩:=hL i es[i] G[i] (by simp) (by simp);exact hk.cells x hxg
theorem C1.fr {w:World}{d N:Nat}{v:Value}{es:List E7}{F:List Nat}(h:C1 w d v es F)(ho:Own w N F):∀b∈F,Fr w b:=fun b hb=>⟨h.cells b hb,(ho.2 b hb).2⟩
end
section
open Go.RowKit Go.Deep
theorem neV (k n k' n':Int)(s s':ByteArray)(w:World):(binOp .neq 39 (.agg #[.int .i64 k,.int .i64 n,.string s]) (.agg #[.int .i64 k',.int .i64 n',.string s'])).run Tryz.prog w=.ok (.bool (!(k==k' && (n==n' &&s.toList==s'.toList)))) w:=by
 have h:=eqV k n k' n' s s' w;rw[run_eql_struct]at h;rw[run_neq_struct];revert h;cases(Op.equalIn 10000 39 (.agg #[.int .i64 k,.int .i64 n,.string s]) (.agg #[.int .i64 k',.int .i64 n',.string s'])).run Tryz.prog w<;>intro h<;>simp_all [Result.andThen]
def A1P (a b:V3):Bool:=a.k==b.k && (a.n==b.n &&a.s.toList==b.s.toList)
end
section
open Go.RowKit
def M4 (a b:E7):Bool:=a.k==b.k && (a.n==b.n && (A1P a.v b.v && (a.p.toList==b.p.toList &&a.ks.length==b.ks.length)))
def j1:Nat->E7->E7->Bool
 |0,_,_=>true
 |d+1,a,b=>M4 a b && (a.ks.zip b.ks).all fun p=>j1 d p.1 p.2
def A3o (d:Nat)(xs ys:List E7):Bool:=(xs.zip ys).all fun p=>j1 d p.1 p.2
theorem A7o (d:Nat)(a b:E7):j1 (d+1) a b=(M4 a b &&A3o d a.ks b.ks):=rfl
def PtE (w:World)(d b q:Nat)(e:E7)(F:List Nat):Prop:=b<w.heap.size/\cellsE w b q e/\∃u,w.cell? ⟨b,q+6,none⟩=some u/\C1 w d u e.ks F
theorem PtE.below {w w':World}{d b q:Nat}{e:E7}{F:List Nat}(h:PtE w d b q e F)(hb:Below w.heap.size w w'):PtE w' d b q e F:=by
 obtain⟨hl,hc,u,hu,hk⟩:=h;exact⟨Nat.lt_of_lt_of_le hl hb.size,hc.keep (hb.block b hl),u,(hb.cell (p:=⟨b,_,none⟩) hl).trans hu,hk.below hb⟩
theorem C3a {e f:E7}(h:(e.k==f.k)=false):M4 e f=false:=by unfold M4;rw[h,Bool.false_and]
theorem C1W {e f:E7}(h:(e.n==f.n)=false):M4 e f=false:=by unfold M4;rw[h,Bool.false_and,Bool.and_false]
theorem B5M {e f:E7}(h:(e.v.k==f.v.k && (e.v.n==f.v.n &&e.v.s.toList==f.v.s.toList))=false):M4 e f=false:=by unfold M4 A1P;rw[h,Bool.false_and,Bool.and_false,Bool.and_false]
theorem B6V {e f:E7}(h:(e.p.toList==f.p.toList)=false):M4 e f=false:=by unfold M4;rw[h,Bool.false_and,Bool.and_false,Bool.and_false,Bool.and_false]
theorem C38 {e f:E7}(h:((e.ks.length:Int)==(f.ks.length:Int))=false):M4 e f=false:=by
 unfold M4;rw[show(e.ks.length==f.ks.length)=false from by simp at h⊢;omega,Bool.and_false,Bool.and_false,Bool.and_false,Bool.and_false]
theorem B97 {e f:E7}(h1:(e.k==f.k)=true)(h2:(e.n==f.n)=true)(h3:(e.v.k==f.v.k && (e.v.n==f.v.n &&e.v.s.toList==f.v.s.toList))=true)(h4:(e.p.toList==f.p.toList)=true)(h5:((e.ks.length:Int)==(f.ks.length:Int))=true):M4 e f=true:=by
 unfold M4 A1P;rw[h1,h2,h3,h4,show(e.ks.length==f.ks.length)=true from by simp at h5⊢;omega];rfl
theorem A9T (d d' b q b' q':Nat)(e f:E7)(F F':List Nat)(w:World)(h:PtE w d b q e F)(h':PtE w d' b' q' f F'):Calls Tryz.prog 127 #[.pointer (some ⟨b,q,none⟩),.pointer (some ⟨b',q',none⟩)] w fun x w'=>x=.returned (.bool (M4 e f))/\Below w.heap.size w w':=by
 obtain⟨hl,⟨c0,c1,c2,c3,c4,c5⟩,u,c6,hk⟩:=h;obtain⟨hl',⟨d0,d1,d2,d3,d4,d5⟩,u',d6,hk'⟩:=h';obtain⟨a,c,rfl,_,hc⟩:=hk.shape;obtain⟨a',c',rfl,_,hc'⟩:=hk'.shape;unfold maxLen at hc hc';have hq:=eqV;clear hk hk';by_cases h1:(e.k==f.k)=true;rotate_left
 ·replace h1:(e.k==f.k)=false:=by simpa only[Bool.not_eq_true]using h1
  have ht:Hid (M4 e f=false):=C3a h1;go_enter Tryz.func127,Tryz.ntmps127;go_wp2_with fail;go_quiet (fail);go_wp2;go_returns;exact⟨rB8 (by rw[ht.out]),dN8 _ _⟩
 by_cases h2:(e.n==f.n)=true;rotate_left
 ·replace h2:(e.n==f.n)=false:=by simpa only[Bool.not_eq_true]using h2
  have ht:Hid (M4 e f=false):=C1W h2;go_enter Tryz.func127,Tryz.ntmps127;go_wp2_with fail;go_quiet (fail);go_wp2;go_returns;exact⟨rB8 (by rw[ht.out]),dN8 _ _⟩
 by_cases h3:(e.v.k==f.v.k && (e.v.n==f.v.n &&e.v.s.toList==f.v.s.toList))=true;rotate_left
 ·replace h3:(e.v.k==f.v.k && (e.v.n==f.v.n &&e.v.s.toList==f.v.s.toList))=false:=by simpa only[Bool.not_eq_true]using h3
  have ht:Hid (M4 e f=false):=B5M h3;go_enter Tryz.func127,Tryz.ntmps127;go_wp2_with fail;go_quiet (fail);go_wp2;go_returns;exact⟨rB8 (by rw[ht.out]),dN8 _ _⟩
 by_cases h4:(e.p.toList==f.p.toList)=true;rotate_left
 ·replace h4:(e.p.toList==f.p.toList)=false:=by simpa only[Bool.not_eq_true]using h4
  have ht:Hid (M4 e f=false):=B6V h4;go_enter Tryz.func127,Tryz.ntmps127;go_wp2_with fail;go_quiet (fail);go_wp2;go_returns;exact⟨rB8 (by rw[ht.out]),dN8 _ _⟩
 by_cases h5:((e.ks.length:Int)==(f.ks.length:Int))=true;rotate_left
 ·replace h5:((e.ks.length:Int)==(f.ks.length:Int))=false:=by simpa only[Bool.not_eq_true]using h5
  have ht:Hid (M4 e f=false):=C38 h5;go_enter Tryz.func127,Tryz.ntmps127;go_wp2_with fail;go_quiet (fail);go_wp2;go_returns;exact⟨rB8 (by rw[ht.out]),dN8 _ _⟩
 have ht:Hid (M4 e f=true):=B97 h1 h2 h3 h4 h5;go_enter Tryz.func127,Tryz.ntmps127;go_wp2_with fail;go_quiet (fail);go_wp2;go_returns;exact⟨rB8 (by rw[ht.out]),dN8 _ _⟩
theorem A8t (b q:Nat)(u:Value)(w:World)(hl:b<w.heap.size)(h:w.cell? ⟨b,q+6,none⟩=some u):Calls Tryz.prog 128 #[.pointer (some ⟨b,q,none⟩)] w fun x w'=>x=.returned (.pointer (some ⟨b,q+6,none⟩))/\w'=w:=by
 go_enter Tryz.func128,Tryz.ntmps128;go_wp2;go_returns;exact⟨rfl,rfl⟩
end
section
open Go.RowKit Go.Deep
structure M8 where
 lb:Nat
 lo:Nat
 rb:Nat
 ro:Nat
 d:Nat
 l:E7
 r:E7
 F:List Nat
 H:List Nat
def M8.ok (w:World)(m:M8):Prop:=PtE w m.d m.lb m.lo m.l m.F/\PtE w m.d m.rb m.ro m.r m.H
def M8.same (m:M8):Bool:=j1 m.d m.l m.r
def mc (ms:List M8):List Value:=ms.flatMap fun m=>[.pointer (some ⟨m.lb,m.lo,none⟩),.pointer (some ⟨m.rb,m.ro,none⟩)]
theorem C1m (ms:List M8):(mc ms).length=ms.length*2:=by
 induction ms with
 |nil=>rfl
 |cons m ms ih=>unfold mc at ih⊢;rw[List.flatMap_cons,List.length_append,ih];simp;omega
theorem B24 (ms:List M8)(m:M8):mc (ms++ [m])=mc ms++ [.pointer (some ⟨m.lb,m.lo,none⟩),.pointer (some ⟨m.rb,m.ro,none⟩)]:=by
 unfold mc;rw[List.flatMap_append];simp
theorem B0u:∀ {ms:List M8} {i:Nat} {m:M8},ms[i]?=some m->(mc ms)[i*2]?=some (.pointer (some ⟨m.lb,m.lo,none⟩))/\(mc ms)[i*2+1]?=some (.pointer (some ⟨m.rb,m.ro,none⟩))
 | [],i,m,h=>by simp at h
 |x::ms,0,m,h=>by simp at h;subst h;simp[mc]
 |x::ms,i+1,m,h=>by
  have:=B0u (ms:=ms) (i:=i) (m:=m) (by simpa using h);have e:mc (x::ms)=.pointer (some ⟨x.lb,x.lo,none⟩):: .pointer (some ⟨x.rb,x.ro,none⟩)::mc ms:=rfl;rw[e,show(i+1)*2=i*2+1+1 from by omega]
  simpa using this
theorem C3N {w:World}{N n:Nat}{v:Value}{ms:List M8}{t:TypeId}(h:w.ownsRow N t 2 v n (mc ms)){i:Nat}{m:M8}(hm:ms[i]?=some m):∃g cap,v=.slice (some ⟨g,0,none⟩) n cap/\n=ms.length/\i<n/\n<=cap/\cap<=maxLen/\g<w.heap.size/\N<=g/\w.cell? ⟨g,i*2,none⟩=some (.pointer (some ⟨m.lb,m.lo,none⟩))/\w.cell? ⟨g,i*2+1,none⟩=some (.pointer (some ⟨m.rb,m.ro,none⟩)):=by
 obtain⟨hl,ho⟩:=h;rw[C1m]at hl;have hi:i<ms.length:=(gE1 hm).1;obtain⟨e0,e1⟩:=B0u hm;rcases ho with⟨_,h0⟩|⟨g,cap,cur,rfl,hg,hc,hn,hmx,hs,ht⟩
 ·omega
 have hlt:g<w.heap.size:=by
  rcases Nat.lt_or_ge g w.heap.size with h'|h'
  ·exact h'
  ·simp[Array.getElem?_eq_none h']at hc
 have get:∀j u,j<n*2->(mc ms)[j]?=some u->w.cell? ⟨g,j,none⟩=some u:=by
  intro j u hj hu;simp only[World.cell?,hc];rw[<-ht,List.getElem?_take,if_pos hj,Array.getElem?_toList]at hu
  simpa using hu
 exact⟨g,cap,rfl,by omega,by omega,hn,hmx,hlt,hg,get _ _ (by omega) e0,get _ _ (by omega) e1⟩
structure Que (w:World)(F0:List Nat)(B:Nat)(res:Bool)(tot:Nat)(wr:World)(v:Value)(i:Nat)(ms:List M8)(es:Array MapEntry)(ck:Nat):Prop where
 le:i<=ms.length
 own:wr.ownsRow w.heap.size 230 2 v ms.length (mc ms)
 map:wr.heap[B]?=some (.map es ck)
 bel:Below w.heap.size w wr
 ok:∀m∈ms,m.ok w
 keys:∀e∈es.toList,∃a a',e.key=.agg #[.pointer (some a),.pointer (some a')]/\a.block∈F0/\∀m∈ms.drop i,a.block∉m.F
 sub:∀m∈ms.drop i,∀b∈m.F,b∈F0
 nd:((ms.drop i).map (·.F)).flatten.Nodup
 res:res=(ms.drop i).all M8.same
 tot:ms.length+((ms.drop i).map fun m=>wtE m.l).sum<=tot
def km (m:M8)(d bl ol br or:Nat)(G G':List (List Nat))(j:Nat):M8:=
 ⟨bl,ol+j*7,br,or+j*7,d,m.l.ks.getD j (E7.mk 0 0 ⟨0,0,⟨#[]⟩⟩ ⟨#[]⟩ []),m.r.ks.getD j (E7.mk 0 0 ⟨0,0,⟨#[]⟩⟩ ⟨#[]⟩ []),G.getD j [],G'.getD j []⟩
def kms (m:M8)(d bl ol br or:Nat)(G G':List (List Nat))(k:Nat):List M8:=(List.range k).map (km m d bl ol br or G G')
theorem C3e (m:M8)(d bl ol br or:Nat)(G G':List (List Nat))(k:Nat):kms m d bl ol br or G G' (k+1)=kms m d bl ol br or G G' k++ [km m d bl ol br or G G' k]:=by
 unfold kms;rw[List.range_succ,List.map_append];rfl
theorem A81 (m:M8)(d bl ol br or:Nat)(G G':List (List Nat))(k:Nat):(kms m d bl ol br or G G' k).length=k:=by simp[kms]
structure Inn (w:World)(F0:List Nat)(B:Nat)(wr:World)(v:Value)(i:Nat)(ms:List M8)(m:M8)(d bl ol br or:Nat)(G G':List (List Nat))(k:Nat)(es:Array MapEntry)(ck:Nat):Prop where
 own:wr.ownsRow w.heap.size 230 2 v (ms.length+k) (mc (ms++kms m d bl ol br or G G' k))
 map:wr.heap[B]?=some (.map es ck)
 bel:Below w.heap.size w wr
 keys:∀e∈es.toList,∃a a',e.key=.agg #[.pointer (some a),.pointer (some a')]/\a.block∈F0/\((∀m∈ms.drop i,a.block∉m.F)\/(a.block=bl/\∃j,j<k/\a.off=ol+j*7))
theorem B1K (f:E7×E7->Bool)(z:E7):∀ (xs ys:List E7),xs.length=ys.length->(xs.zip ys).all f=(List.range xs.length).all fun j=>f (xs.getD j z,ys.getD j z)
 | [],[],_=>rfl
 |x::xs,y::ys,h=>by
  rw[List.zip_cons_cons,List.all_cons,List.length_cons,List.range_succ_eq_map,List.all_cons,List.all_map,B1K f z xs ys (by simpa using h)];rfl
theorem A8o (f:E7->Nat)(z:E7):∀ (xs:List E7),((List.range xs.length).map fun j=>f (xs.getD j z)).sum=(xs.map f).sum
 | []=>rfl
 |x::xs=>by
  rw[List.length_cons,List.range_succ_eq_map,List.map_cons,List.sum_cons,List.map_map,List.map_cons,List.sum_cons,<-A8o f z xs];rfl
theorem Inn.done {w:World}{F0:List Nat}{B:Nat}{res:Bool}{tot:Nat}{wr wr0:World}{v v0:Value}{i:Nat}{ms:List M8}{m:M8}{d bl ol br or:Nat}{G G':List (List Nat)}{es es0:Array MapEntry}{ck ck0:Nat}(hQ:Que w F0 B res tot wr0 v0 i ms es0 ck0) (hm:ms[i]?=some m) (hd:m.d=d+1) (ht:M4 m.l m.r=true) (hG:G.length=m.l.ks.length) (hG':G'.length=m.r.ks.length)(hF:m.l.ks=[]->m.F=[]) (hF':m.l.ks≠ []->m.F=bl::G.flatten)(hok:∀j,j<m.l.ks.length->(km m d bl ol br or G G' j).ok w)(h:Inn w F0 B wr v i ms m d bl ol br or G G' m.l.ks.length es ck):Que w F0 B res tot wr v (i+1) (ms++kms m d bl ol br or G G' m.l.ks.length) es ck:=by
 have hi:i<ms.length:=(gE1 hm).1;have D3:m.l.ks.length=m.r.ks.length:=by
  unfold M4 at ht;simp at ht;omega
 have hdr:ms.drop i=m::ms.drop (i+1):=by
  obtain⟨_,rfl⟩:=gE1 hm;exact List.drop_eq_getElem_cons hi
 have A3c:(ms++kms m d bl ol br or G G' m.l.ks.length).drop (i+1)=ms.drop (i+1)++kms m d bl ol br or G G' m.l.ks.length:=List.drop_append_of_le_length (by omega);have hmf:∀b∈G.flatten,b∈m.F:=by
  intro b hb;by_cases hne:m.l.ks=[]
  ·have:G=[]:=List.length_eq_zero_iff.1 (by rw[hG,hne];rfl);rw[this]at hb;cases hb
  ·rw[hF' hne];exact List.mem_cons_of_mem _ hb
 have hkF:((kms m d bl ol br or G G' m.l.ks.length).map (·.F)).flatten=G.flatten:=by
  rw[<-A8d G,hG];unfold kms;rw[List.map_map];rfl
 have hkm:∀x∈kms m d bl ol br or G G' m.l.ks.length,∀b∈x.F,b∈G.flatten:=by
  intro x hx b hb;rw[<-hkF];exact List.mem_flatten.2 ⟨x.F,List.mem_map.2 ⟨x,hx,rfl⟩,hb⟩
 have hnd:=hQ.nd;rw[hdr,List.map_cons,List.flatten_cons,List.nodup_append]at hnd;obtain⟨n1,n2,n3⟩:=hnd;have B7s:∀b∈m.F,b∈F0:=hQ.sub m (by rw[hdr];exact List.mem_cons_self);refine⟨by simp;omega,by rw[List.length_append,A81];exact h.own,h.map,h.bel,?_,?_,?_,?_,?_,?_⟩
 ·intro x hx;rcases List.mem_append.1 hx with hx|hx
  ·exact hQ.ok x hx
  ·obtain⟨j,hj,rfl⟩:=List.mem_map.1 hx;exact hok j (List.mem_range.1 hj)
 ·intro e he;obtain⟨a,a',hk,h0,hor⟩:=h.keys e he;refine⟨a,a',hk,h0,fun x hx=>?_⟩;rw[A3c]at hx;rcases hor with hold|⟨rfl,j,hj,_⟩
  ·rcases List.mem_append.1 hx with hx|hx
   ·exact hold x (by rw[hdr];exact List.mem_cons_of_mem _ hx)
   ·intro hb;exact hold m (by rw[hdr];exact List.mem_cons_self) (hmf _ (hkm x hx _ hb))
  ·have hne:m.l.ks≠ []:=by intro e;rw[e]at hj;simp at hj
   have hF1:=hF' hne;rw[hF1]at n1 n3;rcases List.mem_append.1 hx with hx|hx
   ·intro hb;exact n3 _ List.mem_cons_self _ (List.mem_flatten.2 ⟨x.F,List.mem_map.2 ⟨x,hx,rfl⟩,hb⟩) rfl
   ·intro hb;exact(List.nodup_cons.1 n1).1 (hkm x hx _ hb)
 ·intro x hx b hb;rw[A3c]at hx;rcases List.mem_append.1 hx with hx|hx
  ·exact hQ.sub x (by rw[hdr];exact List.mem_cons_of_mem _ hx) b hb
  ·exact B7s b (hmf b (hkm x hx b hb))
 ·rw[A3c,List.map_append,List.flatten_append,hkF,List.nodup_append];refine⟨n2,?_,fun a ha b hb=>?_⟩
  ·by_cases hne:m.l.ks=[]
   ·have:G=[]:=List.length_eq_zero_iff.1 (by rw[hG,hne];rfl);rw[this];exact List.nodup_nil
   ·rw[hF' hne]at n1;exact(List.nodup_cons.1 n1).2
  ·rintro rfl;exact n3 a (hmf a hb) a ha rfl
 ·rw[hQ.res,hdr,A3c,List.all_cons,List.all_append,Bool.and_comm];congr 1;show j1 m.d m.l m.r=_;rw[hd,A7o,ht,Bool.true_and];unfold A3o;rw[B1K _ (E7.mk 0 0 ⟨0,0,⟨#[]⟩⟩ ⟨#[]⟩ []) _ _ D3];unfold kms;rw[List.all_map];rfl
 ·have ht:=hQ.tot;rw[hdr,List.map_cons,List.sum_cons]at ht;rw[A3c,List.length_append,A81,List.map_append,List.sum_append];have e1:((kms m d bl ol br or G G' m.l.ks.length).map fun x=>wtE x.l).sum=H4 m.l.ks:=by
   unfold kms;rw[List.map_map,<-A3K,<-A8o wtE (E7.mk 0 0 ⟨0,0,⟨#[]⟩⟩ ⟨#[]⟩ [])];rfl
  have e2:=j3 m.l;omega
theorem Que.inn {w:World}{F0:List Nat}{B:Nat}{res:Bool}{tot:Nat}{wr w2:World}{v:Value}{i:Nat}{ms:List M8}{m:M8}{d bl ol br or:Nat}{G G':List (List Nat)}{es:Array MapEntry}{ck:Nat}(hQ:Que w F0 B res tot wr v i ms es ck) (hb:Below wr.heap.size wr w2):Inn w F0 B w2 v i ms m d bl ol br or G G' 0 es ck:=by
 have hB:B<wr.heap.size:=(Array.getElem?_eq_some_iff.1 hQ.map).1;refine⟨by simpa [kms]using A61 hQ.own hb,(hb.block B hB).trans hQ.map,hQ.bel.trans (hb.mono hQ.bel.size),fun e he=>?_⟩;obtain⟨a,a',h1,h2,h3⟩:=hQ.keys e he;exact⟨a,a',h1,h2,.inl h3⟩
theorem Inn.step {w:World}{F0:List Nat}{B:Nat}{wr:World}{v:Value}{i:Nat}{ms:List M8}{m:M8}{d bl ol br or:Nat}{G G':List (List Nat)}{j:Nat}{es:Array MapEntry}{ck:Nat}(h:Inn w F0 B wr v i ms m d bl ol br or G G' j es ck) (hbF:bl∈F0) {w5:World} {v5 n:Value}(D2:w5.ownsRow w.heap.size 230 2 v5 (ms.length+j+1) (mc (ms++kms m d bl ol br or G G' j)++ [.pointer (some ⟨bl,ol+j*7,none⟩),.pointer (some ⟨br,or+j*7,none⟩)]))(hmap:w5.heap[B]?=some (.map (es.push ⟨.agg #[.pointer (some ⟨bl,ol+j*7,none⟩),.pointer (some ⟨br,or+j*7,none⟩)],n,ck⟩) (ck+1))) (A0D:Below w.heap.size w w5):Inn w F0 B w5 v5 i ms m d bl ol br or G G' (j+1) (es.push ⟨.agg #[.pointer (some ⟨bl,ol+j*7,none⟩),.pointer (some ⟨br,or+j*7,none⟩)],n,ck⟩) (ck+1):=by
 refine⟨?_,hmap,A0D,fun e he=>?_⟩
 ·rw[C3e,<-List.append_assoc,B24];exact D2
 ·rw[Array.toList_push]at he;rcases List.mem_append.1 he with he|he
  ·obtain⟨a,a',h1,h2,h3⟩:=h.keys e he;refine⟨a,a',h1,h2,?_⟩;rcases h3 with h3|⟨hb,j',hj',ho⟩
   ·exact .inl h3
   ·exact .inr ⟨hb,j',by omega,ho⟩
  ·rcases List.mem_singleton.1 he with rfl;exact⟨_,_,rfl,hbF,.inr ⟨rfl,j,by omega,rfl⟩⟩
theorem Inn.fresh {w:World}{F0:List Nat}{B:Nat}{wr:World}{v:Value}{i:Nat}{ms:List M8}{m:M8}{d bl ol br or:Nat}{G G':List (List Nat)}{j:Nat}{es:Array MapEntry}{ck:Nat}(h:Inn w F0 B wr v i ms m d bl ol br or G G' j es ck) (hm:ms[i]?=some m) (hF:m.F=bl::G.flatten) (hFr:∀x∈F0,Fr w x/\x<w.heap.size) {wX:World} (hX:Below w.heap.size w wX):∀e∈es.toList,∃a a',e.key=.agg #[.pointer (some a),.pointer (some a')]/\(⟨bl,ol+j*7,none⟩:Addr)≠a/\Fr wX a.block:=by
 intro e he;obtain⟨a,a',h1,h2,h3⟩:=h.keys e he;refine⟨a,a',h1,?_,(hFr _ h2).1.keep (hX.block _ (hFr _ h2).2)⟩;rintro rfl;rcases h3 with h3|⟨_,j',hj',ho⟩
 ·refine h3 m ?_ (by rw[hF];exact List.mem_cons_self);obtain⟨hi,rfl⟩:=gE1 hm;rw[List.drop_eq_getElem_cons hi];exact List.mem_cons_self
 ·simp at ho;omega
theorem Tryz.infoMatch:(Tryz.prog.info? 230).map (fun i=>(i.zero,i.size,i.bytes))=some (some (.agg #[.pointer none,.pointer none]),2,16):=by kernel_rfl
end
section
open Go.RowKit Go.Deep
theorem C27 {m:M8}{w:World}(h:PtE w m.d m.lb m.lo m.l m.F):∃d u,m.d=d+1/\w.cell? ⟨m.lb,m.lo+6,none⟩=some u/\C1 w (d+1) u m.l.ks m.F:=by
 obtain⟨_,_,u,hu,hk⟩:=h;cases hd:m.d with
 |zero=>rw[hd]at hk;exact hk.elim
 |succ d=>rw[hd]at hk;exact⟨d,u,rfl,hu,hk⟩
attribute [local go_sem] Go.run_makeMap_plain
theorem B2k (d b q b' q':Nat)(e f:E7)(F F':List Nat)(w:World)(h:PtE w d b q e F)(h':PtE w d b' q' f F')(hnd:F.Nodup)(hFr:∀x∈F,Fr w x)(hn:wtE e<=1048576):Calls Tryz.prog 126 #[.pointer (some ⟨b,q,none⟩),.pointer (some ⟨b',q',none⟩),.func (.func 127) #[] #[],.func (.func 128) #[] #[]] w fun x w'=>x=.returned (.bool (j1 d e f))/\Below w.heap.size w w':=by
 have A7W:∀x∈F,Fr w x/\x<w.heap.size:=fun x hx=>⟨hFr x hx,by obtain⟨_,_,_,_,hk⟩:=h;exact hk.lt x hx⟩;go_enter Tryz.func126,Tryz.ntmps126;go_wp2_with fail;go_loopw [9,11] (fun v i wr=> ∃ (k:Nat) (ms:List M8) (es:Array MapEntry) (ck:Nat),i=.int .i64 k/\Que w F (w.heap.size+1) (j1 d e f) (1+wtE e) wr v k ms es ck) (fun _ i _=>1+wtE e - (intOf i).toNat)
 case atStart=>
  refine⟨0,[⟨b,q,b',q',d,e,f,F,F'⟩],#[],0,rfl,⟨by simp,⟨by simp[mc],.inr ⟨w.heap.size,1,#[.pointer (some ⟨b,q,none⟩),.pointer (some ⟨b',q',none⟩)],rfl,Nat.le_refl _,?_,by simp,by simp[maxLen],by simp,by simp[mc]⟩⟩,?_,bex,?_,by simp,by simp,by simpa using hnd,by simp[M8.same],by simp⟩⟩
  ·exact(A5L w _ _).1
  ·exact(A5L w _ _).2
  ·intro m hm;rcases List.mem_singleton.1 hm with rfl;exact⟨h,h'⟩
 case round=>
  obtain⟨k,ms,es,ck,rfl,hQ⟩:=hrel;have hb:=hQ.bel;have hzb:=hb.size;have C5Q:=hQ.tot;by_cases hlt:k<ms.length
  ·have hm:ms[k]?=some ms[k]:=by simp
   generalize ms[k]=m at hm;obtain⟨g,cap,hv,hnl,hik,Q9,hmx,hglt,hNg,c0,c1⟩:=C3N hQ.own hm;subst hv;have hPl:=(hQ.ok m (mg8 hm)).1;have hPr:=(hQ.ok m (mg8 hm)).2;unfold maxLen at hmx;obtain⟨d1,ul,hd1,hul,hKl⟩:=C27 hPl;obtain⟨ur,hur,hKr⟩:∃ur,w.cell? ⟨m.rb,m.ro+6,none⟩=some ur/\C1 w (d1+1) ur m.r.ks m.H:=by
    obtain⟨_,_,ur,hur,hK⟩:=hPr;exact⟨ur,hur,by rw[<-hd1];exact hK⟩
   have A5V:=hPl.below hb;have A6n:=hPr.below hb;have A8u:=hPl.1;have A73:=hPr.1;have hdr:ms.drop k=m::ms.drop (k+1):=by
    obtain⟨_,rfl⟩:=gE1 hm;exact List.drop_eq_getElem_cons hlt
   have HQ:Hid (Que w F (w.heap.size+1) (j1 d e f) (1+wtE e) wr (.slice (some ⟨g,0,none⟩) ms.length cap) k ms es ck):=hQ;have HM:Hid (ms[k]?=some m):=hm;by_cases A3p:M4 m.l m.r=true;rotate_left
   ·replace A3p:M4 m.l m.r=false:=by simpa using A3p
    have HR:Hid (j1 d e f=false):=by
     show j1 d e f=false;rw[hQ.res,hdr,List.all_cons];show(j1 m.d m.l m.r &&_)=false;rw[hd1,A7o,A3p];rfl
    clear hQ hm hdr hd1 hKl hKr hul hur;go_wp2_with(first|(go_at_call 127;refine(A9T _ _ _ _ _ _ m.l m.r _ _ _ (A5V.below bex) (A6n.below bex)).mono ?_;rintro z w1 ⟨rfl,hb1⟩;have hz1:=hb1.size;(try simp at hz1))|fail);go_returns;exact⟨rB8 HR.out.symm,bex⟩
   have HT:Hid (M4 m.l m.r=true):=A3p;have HD:Hid (m.d=d1+1):=hd1;obtain⟨al,cl,bl,ol,G,rfl,hll,hcl,hG,hF0,hal⟩:=hKl.pick;obtain⟨ar,cr,br,or,G',rfl,hlr,hcr,hG',_,har⟩:=hKr.pick;unfold maxLen at hcl hcr;clear hQ hm hdr hd1 hKl hKr;go_wp2_with(first|(go_at_call 127;refine(A9T _ _ _ _ _ _ m.l m.r _ _ _ (A5V.below bex) (A6n.below bex)).mono ?_;rintro z w1 ⟨rfl,hb1⟩;have hz1:=hb1.size;(try simp at hz1))|fail);have B5y:w1.cell? ⟨m.lb,m.lo+6,none⟩=some (.slice al m.l.ks.length cl):=by
    rw[(Below.cell (p:=⟨m.lb,m.lo+6,none⟩) (show Below w.heap.size w w1 from bex) A8u)];exact hul
   have B6r:w1.cell? ⟨m.rb,m.ro+6,none⟩=some (.slice ar m.r.ks.length cr):=by
    rw[(Below.cell (p:=⟨m.rb,m.ro+6,none⟩) (show Below w.heap.size w w1 from bex) A73)];exact hur
   have q0:w1.cell? ⟨wr.heap.size,0,none⟩=some (.pointer (some ⟨m.lb,m.lo,none⟩)):=cl8 hb1;have q1:w1.cell? ⟨wr.heap.size,1,none⟩=some (.pointer (some ⟨m.rb,m.ro,none⟩)):=cl8 hb1;clear A3p hul hur c0 c1;go_region_held3 (fun w'=>w'.cell? ⟨wr.heap.size,0,none⟩=some (.pointer (some ⟨m.lb,m.lo,none⟩))/\w'.cell? ⟨wr.heap.size,1,none⟩=some (.pointer (some ⟨m.rb,m.ro,none⟩))/\w'.cell? ⟨m.lb,m.lo+6,none⟩=some (.slice al m.l.ks.length cl)/\w'.cell? ⟨m.rb,m.ro+6,none⟩=some (.slice ar m.r.ks.length cr)) (refine⟨?_,?_,?_,?_⟩<;>go_simp) ((go_at_call 128;(first|(with_reducible refine cM8 (A8t m.lb m.lo (.slice al m.l.ks.length cl) _ ?h1 ?h2) ?_)|(with_reducible refine cM8 (A8t m.rb m.ro (.slice ar m.r.ks.length cr) _ ?h1 ?h2) ?_));(case h1=>first|omega|(simp;omega));(case h2=>go_simp);rintro z w2 ⟨rfl,rfl⟩));have hI0:Inn w F (w.heap.size+1) w1.drew (.slice (some ⟨g,0,none⟩) ms.length cap) k ms m d1 bl ol br or G G' 0 es ck:=HQ.out.inn bex;have HLn:Hid (m.l.ks.length=m.r.ks.length):=by
    have ht:=HT.out;unfold M4 at ht;simp at ht;show m.l.ks.length=m.r.ks.length;omega
   have htl:ms.length+m.l.ks.length<=1048577:=by
    have:=HQ.out.tot;have e:=j3 m.l;obtain⟨hkl,rfl⟩:=gE1 HM.out;rw[List.drop_eq_getElem_cons hkl,List.map_cons,List.sum_cons]at this;omega
   clear hb1 B5y B6r q0 q1 A5V A6n A8u A73 hPl hPr;go_wp2_with fail;go_loopw [9,55] (fun v' kk w'=> ∃ (j:Nat) (es':Array MapEntry) (ck':Nat),j<=m.l.ks.length/\kk=.int .i64 j/\Inn w F (w.heap.size+1) w' v' k ms m d1 bl ol br or G G' j es' ck') (fun _ kk _=>m.l.ks.length - (intOf kk).toNat)
   case atStart=>exact⟨0,es,ck,Nat.zero_le _,rfl,hI0⟩
   case round=>
    clear hI0;obtain⟨j,es',ck',hj,rfl,hI⟩:=hrel;by_cases hjl:j<m.l.ks.length
    ·have hjr:j<m.r.ks.length:=by have:=HLn.out;omega
     obtain⟨rfl,hblt,hFl,hLl⟩:=hal j hjl;obtain⟨rfl,hbrt,_,hLr⟩:=har j hjr;clear hal har Q9 hmx;go_wp2_with fail;go_region_held3 (fun w'=>True) (trivial) (fail);have hX:Below w.heap.size w (World.drew (World.alloc wr (.cells #[.pointer (some ⟨bl,ol+j*7,none⟩),.pointer (some ⟨br,or+j*7,none⟩)] 230))):=by
      have hb2:=hI.bel;have hz2:=hb2.size;exact bex
     have hBz:w.heap.size+1<wr.heap.size:=(Array.getElem?_eq_some_iff.1 hI.map).1;have hbX:Below wr.heap.size wr (World.drew (World.alloc wr (.cells #[.pointer (some ⟨bl,ol+j*7,none⟩),.pointer (some ⟨br,or+j*7,none⟩)] 230))):=bex;have x0:(World.drew (World.alloc wr (.cells #[.pointer (some ⟨bl,ol+j*7,none⟩),.pointer (some ⟨br,or+j*7,none⟩)] 230))).cell? ⟨wr.heap.size,0,none⟩=some (.pointer (some ⟨bl,ol+j*7,none⟩)):=by go_simp
     have x1:(World.drew (World.alloc wr (.cells #[.pointer (some ⟨bl,ol+j*7,none⟩),.pointer (some ⟨br,or+j*7,none⟩)] 230))).cell? ⟨wr.heap.size,1,none⟩=some (.pointer (some ⟨br,or+j*7,none⟩)):=by go_simp
     have xz:(World.drew (World.alloc wr (.cells #[.pointer (some ⟨bl,ol+j*7,none⟩),.pointer (some ⟨br,or+j*7,none⟩)] 230))).heap.size=wr.heap.size+1:=by simp
     generalize World.drew (World.alloc wr (.cells #[.pointer (some ⟨bl,ol+j*7,none⟩),.pointer (some ⟨br,or+j*7,none⟩)] 230))=wX at*;have hmX:wX.heap[w.heap.size+1]?=some (.map es' ck'):=(hbX.block _ hBz).trans hI.map;have hoX:=A61 hI.own hbX;have hfX:=hI.fresh HM.out hFl A7W hX;have A7a:bl∈F:=HQ.out.sub m (by
      obtain⟨hkl,rfl⟩:=gE1 HM.out;rw[List.drop_eq_getElem_cons hkl];exact List.mem_cons_self) bl (by rw[hFl];exact List.mem_cons_self)
     have hpX:Fr wX bl:=(A7W bl A7a).1.keep (hX.block bl (A7W bl A7a).2);obtain⟨n,hn'⟩:∃n,n=ms.length+j:=⟨_,rfl⟩;rw[<-hn']at hoX;obtain⟨g2,cap2,rfl,hc2,hm2,hN2,A2p,A5Y⟩:=B1J hoX (by omega);unfold maxLen at hm2;have A4D:=B5K wX (p:=⟨bl,ol+j*7,none⟩) (q:=⟨br,or+j*7,none⟩) hmX hpX hfX;have A7L:=C3X wX (p:=⟨bl,ol+j*7,none⟩) (q:=⟨br,or+j*7,none⟩) (v:=.int .i64 n) hmX hpX hfX;obtain⟨y0,y1,y2,y3⟩:=A93 (o':=.map (es'.push ⟨.agg #[.pointer (some ⟨bl,ol+j*7,none⟩),.pointer (some ⟨br,or+j*7,none⟩)],.int .i64 n,ck'⟩) (ck'+1)) hmX (by omega) hX;generalize({wX with heap:=wX.heap.setIfInBounds (w.heap.size+1) (.map (es'.push ⟨.agg #[.pointer (some ⟨bl,ol+j*7,none⟩),.pointer (some ⟨br,or+j*7,none⟩)],.int .i64 n,ck'⟩) (ck'+1))}:World)=wY at*;have z0:wY.cell? ⟨wr.heap.size,0,none⟩=some (.pointer (some ⟨bl,ol+j*7,none⟩)):=(cb8 (y1 _ (by omega))).trans x0;have z1:wY.cell? ⟨wr.heap.size,1,none⟩=some (.pointer (some ⟨br,or+j*7,none⟩)):=(cb8 (y1 _ (by omega))).trans x1;have hgB:g2≠w.heap.size+1:=by
      rintro rfl;obtain⟨c,t,l,hc⟩:=A5Y;rw[hmX]at hc;cases hc
     have hoY:wY.ownsRow w.heap.size 230 2 (.slice (some ⟨g2,0,none⟩) n cap2) n (mc (ms++kms m d1 bl ol br or G G' j)):=B46 hoX fun g' c t l hg' _=>by
      simp[Value.ownBlock]at hg';subst hg';exact y1 _ hgB
     have HI:Hid (Inn w F (w.heap.size+1) wr (.slice (some ⟨g2,0,none⟩) n cap2) k ms m d1 bl ol br or G G' j es' ck'):=hI;have HN:Hid (n=ms.length+j):=hn';have hn2:n+1<=1048577:=by omega
     obtain⟨i0,hi,hz0,hz1,hz2⟩:=info_parts Tryz.infoMatch;have S2:∀j' u,[Value.pointer (some ⟨bl,ol+j*7,none⟩),Value.pointer (some ⟨br,or+j*7,none⟩)][j']?=some u->(wY.alloc (.cells #[.pointer (some ⟨bl,ol+j*7,none⟩),.pointer (some ⟨br,or+j*7,none⟩)] 230)).cell? ((⟨wY.heap.size,0,none⟩:Addr).add j')=some u:=by
      intro j' u hu
      match j',hu with
      |0,hu=>simp at hu;subst hu;go_simp
      |1,hu=>simp at hu;subst hu;go_simp
     have hoZ:(wY.alloc (.cells #[.pointer (some ⟨bl,ol+j*7,none⟩),.pointer (some ⟨br,or+j*7,none⟩)] 230)).ownsRow w.heap.size 230 2 (.slice (some ⟨g2,0,none⟩) n cap2) n (mc (ms++kms m d1 bl ol br or G G' j)):=A61 hoY ((Below.refl _ _).alloc lr8 _);have hyz:w.heap.size+1<wY.heap.size:=by omega
     have hrz:wr.heap.size<wY.heap.size:=by omega
     clear hI hn' hoX hfX hpX hX hbX hmX A5Y y2 xz;go_wp2_with(at_builtin;refine wpList_append_own _ rfl _ _ 231 rfl w.heap.size 230 i0 _ 2 16 Tryz.underlying231 hi hz0 hz1 hz2 rfl (by decide) _ _ _ rfl hoZ ⟨wY.heap.size,0,none⟩ 1 1 [.pointer (some ⟨bl,ol+j*7,none⟩),.pointer (some ⟨br,or+j*7,none⟩)] rfl rfl S2 (by simp[Value.oneCell']) ?c3 ?c4 ?c5 ?_)
     case c3=>unfold maxLen;omega
     case c4=>omega
     case c5=>simp;omega
     intro v5 w5 D4 hgr5 _;have hB5:w5.heap[w.heap.size+1]?=some (.map (es'.push ⟨.agg #[.pointer (some ⟨bl,ol+j*7,none⟩),.pointer (some ⟨br,or+j*7,none⟩)],.int .i64 n,ck'⟩) (ck'+1)):=by
      rw[hgr5.block _ (by simp;omega) (by simp[Value.ownBlock];omega)];rw[Below.block ((Below.refl _ _).alloc lr8 _) _ hyz];exact y0
     have A7B:Below w.heap.size w w5:=(Below.alloc y3 (by omega) _).grown hgr5 (by simp;omega) (fun k' hk'=>by simp[Value.ownBlock]at hk';omega);have hI5:=HI.out.step A7a (by rw[HN.out]at D4;exact D4) hB5 A7B;clear D4 hgr5 hB5 A7B;go_wp2;exact⟨⟨j+1,_,_,hjl,by simp,hI5⟩,by simp[intOf];omega⟩
    ·obtain rfl:j=m.l.ks.length:=by omega
     have hF1:m.l.ks≠ []->m.F=bl::G.flatten:=fun hne=>(hal 0 (List.length_pos_iff.2 hne)).2.2.1;have hok:∀i,i<m.l.ks.length->(km m d1 bl ol br or G G' i).ok w:=by
      intro i hi;have hi':i<m.r.ks.length:=by have:=HLn.out;omega
      obtain⟨_,hblt,_,hLl⟩:=hal i hi;obtain⟨_,hbrt,_,hLr⟩:=har i hi';have hiG:i<G.length:=by omega
      have C4s:i<G'.length:=by omega
      have e1:m.l.ks[i]?=some m.l.ks[i]:=by simp
      have e2:m.r.ks[i]?=some m.r.ks[i]:=by simp
      have e3:G[i]?=some G[i]:=by simp
      have e4:G'[i]?=some G'[i]:=by simp
      obtain⟨_,p1,p2⟩:=hLl i _ _ e1 e3;obtain⟨_,r1,r2⟩:=hLr i _ _ e2 e4;unfold M8.ok km;dsimp only;rw[A4B e1,A4B e2,A4B e3,A4B e4];exact⟨⟨hblt,p1,p2⟩,⟨hbrt,r1,r2⟩⟩
     have hQ':=Inn.done HQ.out HM.out HD.out HT.out hG hG' hF0 hF1 hok hI;have hkt:k<1+wtE e:=by omega
     clear hok hF1 hI hal har;go_wp2_with fail;exact⟨⟨k+1,_,es',ck',by simp,hQ'⟩,by simp[intOf];omega⟩
  ·have HR:Hid (j1 d e f=true):=by
    show j1 d e f=true;rw[hQ.res,List.drop_eq_nil_of_le (by omega)];rfl
   obtain⟨ao,cap,hv,hmx⟩:∃ao cap,u9=.slice ao ms.length cap/\ms.length<=maxLen:=by
    rcases hQ.own.2 with⟨hv,h0⟩|⟨g,cap,cur,hv,_,_,hn',hm,_⟩
    ·exact⟨none,0,by rw[h0];exact hv,by rw[h0];simp⟩
    ·exact⟨_,cap,hv,by omega⟩
   unfold maxLen at hmx;subst hv;clear hQ;go_wp2_with fail;go_returns;exact⟨rB8 HR.out.symm,hb⟩
end
section
open Go.RowKit
theorem B4b {d N:Nat}(e f:E7)(v u:Value)(F F':List Nat)(w:World)(hv:C1 w d v e.ks F)(hu:C1 w d u f.ks F')(ho:Own w N F)(hn:wtE e<=1048576):Calls Tryz.prog 103 #[(.agg #[.int .i64 e.k,.int .i64 e.n,.int .i64 e.v.k,.int .i64 e.v.n,.string e.v.s,.string e.p,v]),(.agg #[.int .i64 f.k,.int .i64 f.n,.int .i64 f.v.k,.int .i64 f.v.n,.string f.v.s,.string f.p,u])] w fun x w'=>x=.returned (.bool (j1 d e f))/\Below w.heap.size w w':=by
 obtain⟨a,c,rfl,_,_⟩:=hv.shape;obtain⟨a',c',rfl,_,_⟩:=hu.shape;go_enter Tryz.func103,Tryz.ntmps103;go_wp2_with fail;have hA:=(A7O w e (.slice a e.ks.length c) 42).below ((Below.refl _ (w.alloc (.cells #[.int .i64 e.k,.int .i64 e.n,.int .i64 e.v.k,.int .i64 e.v.n,.string e.v.s,.string e.p,.slice a e.ks.length c] 42))).alloc lr8 (.cells #[.int .i64 f.k,.int .i64 f.n,.int .i64 f.v.k,.int .i64 f.v.n,.string f.v.s,.string f.p,.slice a' f.ks.length c'] 42));have hB:=A7O (w.alloc (.cells #[.int .i64 e.k,.int .i64 e.n,.int .i64 e.v.k,.int .i64 e.v.n,.string e.v.s,.string e.p,.slice a e.ks.length c] 42)) f (.slice a' f.ks.length c') 42;rw[World.size_alloc]at hB;have hv2:=hv.below (show Below w.heap.size w ((w.alloc (.cells #[.int .i64 e.k,.int .i64 e.n,.int .i64 e.v.k,.int .i64 e.v.n,.string e.v.s,.string e.p,.slice a e.ks.length c] 42)).alloc (.cells #[.int .i64 f.k,.int .i64 f.n,.int .i64 f.v.k,.int .i64 f.v.n,.string f.v.s,.string f.p,.slice a' f.ks.length c'] 42))from bex);have hu2:=hu.below (show Below w.heap.size w ((w.alloc (.cells #[.int .i64 e.k,.int .i64 e.n,.int .i64 e.v.k,.int .i64 e.v.n,.string e.v.s,.string e.p,.slice a e.ks.length c] 42)).alloc (.cells #[.int .i64 f.k,.int .i64 f.n,.int .i64 f.v.k,.int .i64 f.v.n,.string f.v.s,.string f.p,.slice a' f.ks.length c'] 42))from bex);have ho2:=ho.below hv.lt (show Below w.heap.size w ((w.alloc (.cells #[.int .i64 e.k,.int .i64 e.n,.int .i64 e.v.k,.int .i64 e.v.n,.string e.v.s,.string e.p,.slice a e.ks.length c] 42)).alloc (.cells #[.int .i64 f.k,.int .i64 f.n,.int .i64 f.v.k,.int .i64 f.v.n,.string f.v.s,.string f.p,.slice a' f.ks.length c'] 42))from bex)
 refine cM8 (B2k d w.heap.size 0 (w.heap.size+1) 0 e f F F' _ ⟨hA.1,hA.cellsE,_,hA.2.2.2.2.2.2.2,hv2⟩ ⟨hB.1,hB.cellsE,_,hB.2.2.2.2.2.2.2,hu2⟩ ho.1 (hv2.fr ho2) hn) ?_;rintro x w1 ⟨rfl,hb1⟩;have hz1:=hb1.size;simp only[World.size_alloc]at hz1;clear hA hB hv2 hu2 ho2;go_wp2_with fail;go_returns;exact⟨rfl,bex⟩
end
end Go.Proofs.YteekfcdllaceoaaGreatDoor
