/- Own texts, joined: contracts that the law's proof goes by. -/
import Derived.Test.YtjhhmnjpojnoiaaGreatDoorGLWithViews13
import Derived.Handy
import Derived.LaidEql
import Derived.WideKeyRuns
import Derived.MapKept
import Derived.Carry
import Derived.Test.YtjhhmnjpojnoiaaGreatDoorGLWithViews8
import Derived.Deep.QuietTactic
import Derived.BigQuiet
import Derived.Test.YtjhhmnjpojnoiaaGreatDoorGLWithViews1
import Derived.Deep.AppendLies
set_option maxHeartbeats 16000000
set_option maxRecDepth 100000
set_option linter.unusedVariables false
set_option linter.unusedSimpArgs false
namespace Go.Proofs.YtjhhmnjpojnoiaaGreatDoor
section
section
open Go.RowKit
theorem ptr_no (w:World){a b:Addr}(hne:a≠b)(ha:Fr w a.block)(hb:Fr w b.block)(d:Nat):(Op.equalIn (d+1) 210 (.pointer (some a)) (.pointer (some b))).run Tryz.prog w=.ok false w:=by
 have hp:Tryz.prog.underlying 210=some (.pointer 63):=by kernel_rfl
 obtain⟨j,hte,hsz⟩:∃j,Tryz.prog.info? 63=some j∧j.size=7:=by
  have:(Tryz.prog.info? 63).map (fun i=>i.size)=some 7:=by kernel_rfl
  obtain⟨j,h1,h2⟩:=Option.map_eq_some_iff.1 this;exact⟨j,h1,h2⟩
 have h7:j.size≠0:=by omega
 simp[Op.equalIn,run_underlying hp,sizeOf,typeInfo,hte,h7,sameAddr_no w hne ha hb]
theorem key_no (w:World){a b a' b':Addr}(hne:a≠b)(ha:Fr w a.block)(hb:Fr w b.block):(Op.equal 237 (.agg #[.pointer (some a),.pointer (some a')]) (.agg #[.pointer (some b),.pointer (some b')])).run Tryz.prog w=.ok false w:=by
 have hS:Tryz.prog.underlying 237=some (.struct (Tryz.prog.fieldsOf 237)):=by kernel_rfl
 have hp:Tryz.prog.stoodInHeld 237=false:=by kernel_rfl
 have u3:=Tryz.underlying210;have a3:=Tryz.isAgg210;have z3:=Tryz.sizeOf210;have hn:=ptr_no w hne ha hb 9998;unfold Op.equal Op.maxDepth;rw[show(10000:Nat)=9999+1 from rfl,run_equalIn_agg w 9999 _ _ _ hS hp];simp only[Program.fieldsOf,Tryz.underlying237];go_simp
theorem find_none (w:World){p q:Addr}(hp:Fr w p.block):∀ (es:List MapEntry) (i:Nat),(∀e∈es,∃a a',e.key=.agg #[.pointer (some a),.pointer (some a')]∧p≠a∧Fr w a.block)→
  (Instr.findAsking 237 (.agg #[.pointer (some p),.pointer (some q)]) es i).run Tryz.prog w=.ok none w
 | [],i,_=>by simp[Instr.findAsking]
 |e::es,i,h=>by
  obtain⟨a,a',he,hne,hF⟩:=h e List.mem_cons_self;have h1:=key_no w (a:=p) (b:=a) (a':=q) (b':=a') hne hp hF;simp[Instr.findAsking,he,h1,find_none w hp es (i+1) fun e' he'=>h e' (List.mem_cons_of_mem _ he')]
theorem check_ptr (w:World)(em:Bool)(n:Nat)(a:Addr):(Instr.checkKey em (n+1) 210 (.pointer (some a))).run Tryz.prog w=.ok () w:=by
 have hp:Tryz.prog.underlying 210=some (.pointer 63):=by kernel_rfl
 simp[Instr.checkKey,run_underlying hp]
theorem check_pair (w:World)(em:Bool)(n:Nat)(p q:Addr):(Instr.checkKey em (n+2) 237 (.agg #[.pointer (some p),.pointer (some q)])).run Tryz.prog w=.ok () w:=by
 have hS:=Tryz.underlying237;have a3:=Tryz.isAgg210;have z3:=Tryz.sizeOf210;have hp1:(part 210 #[.pointer (some p),.pointer (some q)] 0).run Tryz.prog w=.ok (.pointer (some p)) w:=by go_simp
 have hp2:(part 210 #[.pointer (some p),.pointer (some q)] 1).run Tryz.prog w=.ok (.pointer (some q)) w:=by go_simp
 unfold Instr.checkKey;simp[run_underlying hS,hp1,hp2,check_ptr,Result.andThen]
theorem check_key (w:World)(em:Bool)(p q:Addr):(Instr.checkKey em 10000 237 (.agg #[.pointer (some p),.pointer (some q)])).run Tryz.prog w=.ok () w:=check_pair w em 9998 p q
theorem find_key (w:World){p q:Addr}(hp:Fr w p.block)(es:List MapEntry)(h:∀e∈es,∃a a',e.key=.agg #[.pointer (some a),.pointer (some a')]∧p≠a∧Fr w a.block):(Instr.findKey 237 (.agg #[.pointer (some p),.pointer (some q)]) es).run Tryz.prog w=.ok none w:=by
 rw[run_findKey_eq w (by kernel_rfl)];exact find_none w hp es 0 h
theorem look_no (w:World){B:Nat}{es:Array MapEntry}{ck:Nat}{p q:Addr}(hb:w.heap[B]?=some (.map es ck))(hp:Fr w p.block)(h:∀e∈es.toList,∃a a',e.key=.agg #[.pointer (some a),.pointer (some a')]∧p≠a∧Fr w a.block):Sem.run Tryz.prog (Instr.lookup 239 (.map (some B)) (.agg #[.pointer (some p),.pointer (some q)]) true) w=.ok (.tuple #[.int .i64 0,.bool false]) w:=by
 have hm:Tryz.prog.underlying 239=some (.map 237 3):=by kernel_rfl
 have hz:(zeroValue 3).run Tryz.prog w=.ok (.int .i64 0) w:=by go_simp
 simp[Instr.lookup,run_underlying hm,MapKept.run_getObj_map hb,check_key,find_key w hp es.toList h,hz,Result.andThen]
theorem upd_no (w:World){B:Nat}{es:Array MapEntry}{ck:Nat}{p q:Addr}{v:Value}(hb:w.heap[B]?=some (.map es ck))(hp:Fr w p.block)(h:∀e∈es.toList,∃a a',e.key=.agg #[.pointer (some a),.pointer (some a')]∧p≠a∧Fr w a.block):Sem.run Tryz.prog (Instr.mapUpdate 239 (.map (some B)) (.agg #[.pointer (some p),.pointer (some q)]) v) w=.ok () {w with heap:=w.heap.setIfInBounds B (.map (es.push ⟨.agg #[.pointer (some p),.pointer (some q)],v,ck⟩) (ck+1))}:=by
 have hm:Tryz.prog.underlying 239=some (.map 237 3):=by kernel_rfl
 simp[Instr.mapUpdate,run_underlying hm,MapKept.run_getObj_map hb,check_key,find_key w hp es.toList h,MapKept.run_setObj_map _ hb,Result.andThen]
end
section
open Go.RowKit
def PtE (w:World)(d b q:Nat)(e:E7)(F:List Nat):Prop:=b<w.heap.size∧cellsE w b q e∧∃u,w.cell? ⟨b,q+6,none⟩=some u∧KidsIs w d u e.ks F
theorem PtE.below {w w':World}{d b q:Nat}{e:E7}{F:List Nat}(h:PtE w d b q e F)(hb:Below w.heap.size w w'):PtE w' d b q e F:=by
 obtain⟨hl,hc,u,hu,hk⟩:=h;exact⟨Nat.lt_of_lt_of_le hl hb.size,hc.keep (hb.block b hl),u,(hb.cell (p:=⟨b,_,none⟩) hl).trans hu,hk.below hb⟩
theorem topB_n1 {e f:E7}(h:(e.k==f.k)=false):topB e f=false:=by unfold topB;rw[h,Bool.false_and]
theorem topB_n2 {e f:E7}(h:(e.n==f.n)=false):topB e f=false:=by unfold topB;rw[h,Bool.false_and,Bool.and_false]
theorem topB_n3 {e f:E7}(h:(e.v.k==f.v.k && (e.v.n==f.v.n &&e.v.s.toList==f.v.s.toList))=false):topB e f=false:=by unfold topB sameV;rw[h,Bool.false_and,Bool.and_false,Bool.and_false]
theorem topB_n4 {e f:E7}(h:(e.p.toList==f.p.toList)=false):topB e f=false:=by unfold topB;rw[h,Bool.false_and,Bool.and_false,Bool.and_false,Bool.and_false]
theorem topB_n5 {e f:E7}(h:((e.ks.length:Int)==(f.ks.length:Int))=false):topB e f=false:=by
 unfold topB;rw[show(e.ks.length==f.ks.length)=false from by simp at h⊢;omega,Bool.and_false,Bool.and_false,Bool.and_false,Bool.and_false]
theorem topB_y {e f:E7}(h1:(e.k==f.k)=true)(h2:(e.n==f.n)=true)(h3:(e.v.k==f.v.k && (e.v.n==f.v.n &&e.v.s.toList==f.v.s.toList))=true)(h4:(e.p.toList==f.p.toList)=true)(h5:((e.ks.length:Int)==(f.ks.length:Int))=true):topB e f=true:=by
 unfold topB sameV;rw[h1,h2,h3,h4,show(e.ks.length==f.ks.length)=true from by simp at h5⊢;omega];rfl
theorem sameNode_any (d d' b q b' q':Nat)(e f:E7)(F F':List Nat)(w:World)(h:PtE w d b q e F)(h':PtE w d' b' q' f F'):Calls Tryz.prog 135 #[.pointer (some ⟨b,q,none⟩),.pointer (some ⟨b',q',none⟩)] w fun x w'=>x=.returned (.bool (topB e f))∧Below w.heap.size w w':=by
 obtain⟨hl,⟨c0,c1,c2,c3,c4,c5⟩,u,c6,hk⟩:=h;obtain⟨hl',⟨d0,d1,d2,d3,d4,d5⟩,u',d6,hk'⟩:=h';obtain⟨a,c,rfl,_,hc⟩:=hk.shape;obtain⟨a',c',rfl,_,hc'⟩:=hk'.shape;unfold maxLen at hc hc';have hq:=eqV;clear hk hk';by_cases h1:(e.k==f.k)=true;rotate_left
 ·replace h1:(e.k==f.k)=false:=by simpa only[Bool.not_eq_true]using h1
  have ht:Hid (topB e f=false):=topB_n1 h1;go_enter Tryz.func135,Tryz.ntmps135;go_wp2_with fail;go_quiet (fail);go_wp2;go_returns;exact⟨rB8 (by rw[ht.out]),dN8 _ _⟩
 by_cases h2:(e.n==f.n)=true;rotate_left
 ·replace h2:(e.n==f.n)=false:=by simpa only[Bool.not_eq_true]using h2
  have ht:Hid (topB e f=false):=topB_n2 h2;go_enter Tryz.func135,Tryz.ntmps135;go_wp2_with fail;go_quiet (fail);go_wp2;go_returns;exact⟨rB8 (by rw[ht.out]),dN8 _ _⟩
 by_cases h3:(e.v.k==f.v.k && (e.v.n==f.v.n &&e.v.s.toList==f.v.s.toList))=true;rotate_left
 ·replace h3:(e.v.k==f.v.k && (e.v.n==f.v.n &&e.v.s.toList==f.v.s.toList))=false:=by simpa only[Bool.not_eq_true]using h3
  have ht:Hid (topB e f=false):=topB_n3 h3;go_enter Tryz.func135,Tryz.ntmps135;go_wp2_with fail;go_quiet (fail);go_wp2;go_returns;exact⟨rB8 (by rw[ht.out]),dN8 _ _⟩
 by_cases h4:(e.p.toList==f.p.toList)=true;rotate_left
 ·replace h4:(e.p.toList==f.p.toList)=false:=by simpa only[Bool.not_eq_true]using h4
  have ht:Hid (topB e f=false):=topB_n4 h4;go_enter Tryz.func135,Tryz.ntmps135;go_wp2_with fail;go_quiet (fail);go_wp2;go_returns;exact⟨rB8 (by rw[ht.out]),dN8 _ _⟩
 by_cases h5:((e.ks.length:Int)==(f.ks.length:Int))=true;rotate_left
 ·replace h5:((e.ks.length:Int)==(f.ks.length:Int))=false:=by simpa only[Bool.not_eq_true]using h5
  have ht:Hid (topB e f=false):=topB_n5 h5;go_enter Tryz.func135,Tryz.ntmps135;go_wp2_with fail;go_quiet (fail);go_wp2;go_returns;exact⟨rB8 (by rw[ht.out]),dN8 _ _⟩
 have ht:Hid (topB e f=true):=topB_y h1 h2 h3 h4 h5;go_enter Tryz.func135,Tryz.ntmps135;go_wp2_with fail;go_quiet (fail);go_wp2;go_returns;exact⟨rB8 (by rw[ht.out]),dN8 _ _⟩
theorem kidsOfExp_any (b q:Nat)(u:Value)(w:World)(hl:b<w.heap.size)(h:w.cell? ⟨b,q+6,none⟩=some u):Calls Tryz.prog 136 #[.pointer (some ⟨b,q,none⟩)] w fun x w'=>x=.returned (.pointer (some ⟨b,q+6,none⟩))∧w'=w:=by
 go_enter Tryz.func136,Tryz.ntmps136;go_wp2;go_returns;exact⟨rfl,rfl⟩
end
section
open Go.RowKit Go.Deep
structure M8 where
 lb:Nat
 lo:Nat
 rb:Nat
 ro:Nat
 d:Nat
 l:E7
 r:E7
 F:List Nat
 H:List Nat
def M8.ok (w:World)(m:M8):Prop:=PtE w m.d m.lb m.lo m.l m.F∧PtE w m.d m.rb m.ro m.r m.H
def M8.same (m:M8):Bool:=sameD m.d m.l m.r
def mc (ms:List M8):List Value:=ms.flatMap fun m=>[.pointer (some ⟨m.lb,m.lo,none⟩),.pointer (some ⟨m.rb,m.ro,none⟩)]
theorem mc_len (ms:List M8):(mc ms).length=ms.length*2:=by
 induction ms with
 |nil=>rfl
 |cons m ms ih=>unfold mc at ih⊢;rw[List.flatMap_cons,List.length_append,ih];simp;omega
theorem mc_push (ms:List M8)(m:M8):mc (ms++ [m])=mc ms++ [.pointer (some ⟨m.lb,m.lo,none⟩),.pointer (some ⟨m.rb,m.ro,none⟩)]:=by
 unfold mc;rw[List.flatMap_append];simp
theorem mc_at:∀ {ms:List M8} {i:Nat} {m:M8},ms[i]?=some m→(mc ms)[i*2]?=some (.pointer (some ⟨m.lb,m.lo,none⟩))∧(mc ms)[i*2+1]?=some (.pointer (some ⟨m.rb,m.ro,none⟩))
 | [],i,m,h=>by simp at h
 |x::ms,0,m,h=>by simp at h;subst h;simp[mc]
 |x::ms,i+1,m,h=>by
  have:=mc_at (ms:=ms) (i:=i) (m:=m) (by simpa using h);have e:mc (x::ms)=.pointer (some ⟨x.lb,x.lo,none⟩):: .pointer (some ⟨x.rb,x.ro,none⟩)::mc ms:=rfl;rw[e,show(i+1)*2=i*2+1+1 from by omega]
  simpa using this
theorem own_read {w:World}{N n:Nat}{v:Value}{ms:List M8}{t:TypeId}(h:w.ownsRow N t 2 v n (mc ms)){i:Nat}{m:M8}(hm:ms[i]?=some m):∃g cap,v=.slice (some ⟨g,0,none⟩) n cap∧n=ms.length∧i<n∧n≤cap∧cap≤maxLen∧g<w.heap.size∧N≤g∧w.cell? ⟨g,i*2,none⟩=some (.pointer (some ⟨m.lb,m.lo,none⟩))∧w.cell? ⟨g,i*2+1,none⟩=some (.pointer (some ⟨m.rb,m.ro,none⟩)):=by
 obtain⟨hl,ho⟩:=h;rw[mc_len]at hl;have hi:i<ms.length:=(gE1 hm).1;obtain⟨e0,e1⟩:=mc_at hm;rcases ho with⟨_,h0⟩|⟨g,cap,cur,rfl,hg,hc,hn,hmx,hs,ht⟩
 ·omega
 have hlt:g<w.heap.size:=by
  rcases Nat.lt_or_ge g w.heap.size with h'|h'
  ·exact h'
  ·simp[Array.getElem?_eq_none h']at hc
 have get:∀j u,j<n*2→(mc ms)[j]?=some u→w.cell? ⟨g,j,none⟩=some u:=by
  intro j u hj hu;simp only[World.cell?,hc];rw[←ht,List.getElem?_take,if_pos hj,Array.getElem?_toList]at hu
  simpa using hu
 exact⟨g,cap,rfl,by omega,by omega,hn,hmx,hlt,hg,get _ _ (by omega) e0,get _ _ (by omega) e1⟩
structure Que (w:World)(F0:List Nat)(B:Nat)(res:Bool)(tot:Nat)(wr:World)(v:Value)(i:Nat)(ms:List M8)(es:Array MapEntry)(ck:Nat):Prop where
 le:i≤ms.length
 own:wr.ownsRow w.heap.size 237 2 v ms.length (mc ms)
 map:wr.heap[B]?=some (.map es ck)
 bel:Below w.heap.size w wr
 ok:∀m∈ms,m.ok w
 keys:∀e∈es.toList,∃a a',e.key=.agg #[.pointer (some a),.pointer (some a')]∧a.block∈F0∧∀m∈ms.drop i,a.block∉m.F
 sub:∀m∈ms.drop i,∀b∈m.F,b∈F0
 nd:((ms.drop i).map (·.F)).flatten.Nodup
 res:res=(ms.drop i).all M8.same
 tot:ms.length+((ms.drop i).map fun m=>wtE m.l).sum≤tot
def km (m:M8)(d bl ol br or:Nat)(G G':List (List Nat))(j:Nat):M8:=
 ⟨bl,ol+j*7,br,or+j*7,d,m.l.ks.getD j (E7.mk 0 0 ⟨0,0,⟨#[]⟩⟩ ⟨#[]⟩ []),m.r.ks.getD j (E7.mk 0 0 ⟨0,0,⟨#[]⟩⟩ ⟨#[]⟩ []),G.getD j [],G'.getD j []⟩
def kms (m:M8)(d bl ol br or:Nat)(G G':List (List Nat))(k:Nat):List M8:=(List.range k).map (km m d bl ol br or G G')
theorem kms_succ (m:M8)(d bl ol br or:Nat)(G G':List (List Nat))(k:Nat):kms m d bl ol br or G G' (k+1)=kms m d bl ol br or G G' k++ [km m d bl ol br or G G' k]:=by
 unfold kms;rw[List.range_succ,List.map_append];rfl
theorem kms_len (m:M8)(d bl ol br or:Nat)(G G':List (List Nat))(k:Nat):(kms m d bl ol br or G G' k).length=k:=by simp[kms]
structure Inn (w:World)(F0:List Nat)(B:Nat)(wr:World)(v:Value)(i:Nat)(ms:List M8)(m:M8)(d bl ol br or:Nat)(G G':List (List Nat))(k:Nat)(es:Array MapEntry)(ck:Nat):Prop where
 own:wr.ownsRow w.heap.size 237 2 v (ms.length+k) (mc (ms++kms m d bl ol br or G G' k))
 map:wr.heap[B]?=some (.map es ck)
 bel:Below w.heap.size w wr
 keys:∀e∈es.toList,∃a a',e.key=.agg #[.pointer (some a),.pointer (some a')]∧a.block∈F0∧((∀m∈ms.drop i,a.block∉m.F)∨(a.block=bl∧∃j,j<k∧a.off=ol+j*7))
theorem zip_all (f:E7×E7→Bool)(z:E7):∀ (xs ys:List E7),xs.length=ys.length→(xs.zip ys).all f=(List.range xs.length).all fun j=>f (xs.getD j z,ys.getD j z)
 | [],[],_=>rfl
 |x::xs,y::ys,h=>by
  rw[List.zip_cons_cons,List.all_cons,List.length_cons,List.range_succ_eq_map,List.all_cons,List.all_map,zip_all f z xs ys (by simpa using h)];rfl
theorem sum_getD (f:E7→Nat)(z:E7):∀ (xs:List E7),((List.range xs.length).map fun j=>f (xs.getD j z)).sum=(xs.map f).sum
 | []=>rfl
 |x::xs=>by
  rw[List.length_cons,List.range_succ_eq_map,List.map_cons,List.sum_cons,List.map_map,List.map_cons,List.sum_cons,←sum_getD f z xs];rfl
theorem Inn.done {w:World}{F0:List Nat}{B:Nat}{res:Bool}{tot:Nat}{wr wr0:World}{v v0:Value}{i:Nat}{ms:List M8}{m:M8}{d bl ol br or:Nat}{G G':List (List Nat)}{es es0:Array MapEntry}{ck ck0:Nat}(hQ:Que w F0 B res tot wr0 v0 i ms es0 ck0) (hm:ms[i]?=some m) (hd:m.d=d+1) (ht:topB m.l m.r=true) (hG:G.length=m.l.ks.length) (hG':G'.length=m.r.ks.length)(hF:m.l.ks=[]→m.F=[]) (hF':m.l.ks≠ []→m.F=bl::G.flatten)(hok:∀j,j<m.l.ks.length→(km m d bl ol br or G G' j).ok w)(h:Inn w F0 B wr v i ms m d bl ol br or G G' m.l.ks.length es ck):Que w F0 B res tot wr v (i+1) (ms++kms m d bl ol br or G G' m.l.ks.length) es ck:=by
 have hi:i<ms.length:=(gE1 hm).1;have hlen:m.l.ks.length=m.r.ks.length:=by
  unfold topB at ht;simp at ht;omega
 have hdr:ms.drop i=m::ms.drop (i+1):=by
  obtain⟨_,rfl⟩:=gE1 hm;exact List.drop_eq_getElem_cons hi
 have hdr':(ms++kms m d bl ol br or G G' m.l.ks.length).drop (i+1)=ms.drop (i+1)++kms m d bl ol br or G G' m.l.ks.length:=List.drop_append_of_le_length (by omega);have hmf:∀b∈G.flatten,b∈m.F:=by
  intro b hb;by_cases hne:m.l.ks=[]
  ·have:G=[]:=List.length_eq_zero_iff.1 (by rw[hG,hne];rfl);rw[this]at hb;cases hb
  ·rw[hF' hne];exact List.mem_cons_of_mem _ hb
 have hkF:((kms m d bl ol br or G G' m.l.ks.length).map (·.F)).flatten=G.flatten:=by
  rw[←flat_getD G,hG];unfold kms;rw[List.map_map];rfl
 have hkm:∀x∈kms m d bl ol br or G G' m.l.ks.length,∀b∈x.F,b∈G.flatten:=by
  intro x hx b hb;rw[←hkF];exact List.mem_flatten.2 ⟨x.F,List.mem_map.2 ⟨x,hx,rfl⟩,hb⟩
 have hnd:=hQ.nd;rw[hdr,List.map_cons,List.flatten_cons,List.nodup_append]at hnd;obtain⟨n1,n2,n3⟩:=hnd;have hsubm:∀b∈m.F,b∈F0:=hQ.sub m (by rw[hdr];exact List.mem_cons_self);refine⟨by simp;omega,by rw[List.length_append,kms_len];exact h.own,h.map,h.bel,?_,?_,?_,?_,?_,?_⟩
 ·intro x hx;rcases List.mem_append.1 hx with hx|hx
  ·exact hQ.ok x hx
  ·obtain⟨j,hj,rfl⟩:=List.mem_map.1 hx;exact hok j (List.mem_range.1 hj)
 ·intro e he;obtain⟨a,a',hk,h0,hor⟩:=h.keys e he;refine⟨a,a',hk,h0,fun x hx=>?_⟩;rw[hdr']at hx;rcases hor with hold|⟨rfl,j,hj,_⟩
  ·rcases List.mem_append.1 hx with hx|hx
   ·exact hold x (by rw[hdr];exact List.mem_cons_of_mem _ hx)
   ·intro hb;exact hold m (by rw[hdr];exact List.mem_cons_self) (hmf _ (hkm x hx _ hb))
  ·have hne:m.l.ks≠ []:=by intro e;rw[e]at hj;simp at hj
   have hF1:=hF' hne;rw[hF1]at n1 n3;rcases List.mem_append.1 hx with hx|hx
   ·intro hb;exact n3 _ List.mem_cons_self _ (List.mem_flatten.2 ⟨x.F,List.mem_map.2 ⟨x,hx,rfl⟩,hb⟩) rfl
   ·intro hb;exact(List.nodup_cons.1 n1).1 (hkm x hx _ hb)
 ·intro x hx b hb;rw[hdr']at hx;rcases List.mem_append.1 hx with hx|hx
  ·exact hQ.sub x (by rw[hdr];exact List.mem_cons_of_mem _ hx) b hb
  ·exact hsubm b (hmf b (hkm x hx b hb))
 ·rw[hdr',List.map_append,List.flatten_append,hkF,List.nodup_append];refine⟨n2,?_,fun a ha b hb=>?_⟩
  ·by_cases hne:m.l.ks=[]
   ·have:G=[]:=List.length_eq_zero_iff.1 (by rw[hG,hne];rfl);rw[this];exact List.nodup_nil
   ·rw[hF' hne]at n1;exact(List.nodup_cons.1 n1).2
  ·rintro rfl;exact n3 a (hmf a hb) a ha rfl
 ·rw[hQ.res,hdr,hdr',List.all_cons,List.all_append,Bool.and_comm];congr 1;show sameD m.d m.l m.r=_;rw[hd,sameD_eq,ht,Bool.true_and];unfold sameL;rw[zip_all _ (E7.mk 0 0 ⟨0,0,⟨#[]⟩⟩ ⟨#[]⟩ []) _ _ hlen];unfold kms;rw[List.all_map];rfl
 ·have ht:=hQ.tot;rw[hdr,List.map_cons,List.sum_cons]at ht;rw[hdr',List.length_append,kms_len,List.map_append,List.sum_append];have e1:((kms m d bl ol br or G G' m.l.ks.length).map fun x=>wtE x.l).sum=wtEs m.l.ks:=by
   unfold kms;rw[List.map_map,←wtEs_sum,←sum_getD wtE (E7.mk 0 0 ⟨0,0,⟨#[]⟩⟩ ⟨#[]⟩ [])];rfl
  have e2:=wtE_eq m.l;omega
theorem Que.inn {w:World}{F0:List Nat}{B:Nat}{res:Bool}{tot:Nat}{wr w2:World}{v:Value}{i:Nat}{ms:List M8}{m:M8}{d bl ol br or:Nat}{G G':List (List Nat)}{es:Array MapEntry}{ck:Nat}(hQ:Que w F0 B res tot wr v i ms es ck) (hb:Below wr.heap.size wr w2):Inn w F0 B w2 v i ms m d bl ol br or G G' 0 es ck:=by
 have hB:B<wr.heap.size:=(Array.getElem?_eq_some_iff.1 hQ.map).1;refine⟨by simpa [kms]using own_keep2 hQ.own hb,(hb.block B hB).trans hQ.map,hQ.bel.trans (hb.mono hQ.bel.size),fun e he=>?_⟩;obtain⟨a,a',h1,h2,h3⟩:=hQ.keys e he;exact⟨a,a',h1,h2,.inl h3⟩
theorem Inn.step {w:World}{F0:List Nat}{B:Nat}{wr:World}{v:Value}{i:Nat}{ms:List M8}{m:M8}{d bl ol br or:Nat}{G G':List (List Nat)}{j:Nat}{es:Array MapEntry}{ck:Nat}(h:Inn w F0 B wr v i ms m d bl ol br or G G' j es ck) (hbF:bl∈F0) {w5:World} {v5 n:Value}(hown:w5.ownsRow w.heap.size 237 2 v5 (ms.length+j+1) (mc (ms++kms m d bl ol br or G G' j)++ [.pointer (some ⟨bl,ol+j*7,none⟩),.pointer (some ⟨br,or+j*7,none⟩)]))(hmap:w5.heap[B]?=some (.map (es.push ⟨.agg #[.pointer (some ⟨bl,ol+j*7,none⟩),.pointer (some ⟨br,or+j*7,none⟩)],n,ck⟩) (ck+1))) (hbel:Below w.heap.size w w5):Inn w F0 B w5 v5 i ms m d bl ol br or G G' (j+1) (es.push ⟨.agg #[.pointer (some ⟨bl,ol+j*7,none⟩),.pointer (some ⟨br,or+j*7,none⟩)],n,ck⟩) (ck+1):=by
 refine⟨?_,hmap,hbel,fun e he=>?_⟩
 ·rw[kms_succ,←List.append_assoc,mc_push];exact hown
 ·rw[Array.toList_push]at he;rcases List.mem_append.1 he with he|he
  ·obtain⟨a,a',h1,h2,h3⟩:=h.keys e he;refine⟨a,a',h1,h2,?_⟩;rcases h3 with h3|⟨hb,j',hj',ho⟩
   ·exact .inl h3
   ·exact .inr ⟨hb,j',by omega,ho⟩
  ·rcases List.mem_singleton.1 he with rfl;exact⟨_,_,rfl,hbF,.inr ⟨rfl,j,by omega,rfl⟩⟩
theorem Inn.fresh {w:World}{F0:List Nat}{B:Nat}{wr:World}{v:Value}{i:Nat}{ms:List M8}{m:M8}{d bl ol br or:Nat}{G G':List (List Nat)}{j:Nat}{es:Array MapEntry}{ck:Nat}(h:Inn w F0 B wr v i ms m d bl ol br or G G' j es ck) (hm:ms[i]?=some m) (hF:m.F=bl::G.flatten) (hFr:∀x∈F0,Fr w x∧x<w.heap.size) {wX:World} (hX:Below w.heap.size w wX):∀e∈es.toList,∃a a',e.key=.agg #[.pointer (some a),.pointer (some a')]∧(⟨bl,ol+j*7,none⟩:Addr)≠a∧Fr wX a.block:=by
 intro e he;obtain⟨a,a',h1,h2,h3⟩:=h.keys e he;refine⟨a,a',h1,?_,(hFr _ h2).1.keep (hX.block _ (hFr _ h2).2)⟩;rintro rfl;rcases h3 with h3|⟨_,j',hj',ho⟩
 ·refine h3 m ?_ (by rw[hF];exact List.mem_cons_self);obtain⟨hi,rfl⟩:=gE1 hm;rw[List.drop_eq_getElem_cons hi];exact List.mem_cons_self
 ·simp at ho;omega
theorem Tryz.infoMatch:(Tryz.prog.info? 237).map (fun i=>(i.zero,i.size,i.bytes))=some (some (.agg #[.pointer none,.pointer none]),2,16):=by kernel_rfl
end
end
end Go.Proofs.YtjhhmnjpojnoiaaGreatDoor
