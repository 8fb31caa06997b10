/- Own texts, joined: contracts that the law's proof goes by. -/
import Derived.Test.YtflokiejcjjbiaaGreatGLFits1
import Derived.WideMake
import Derived.Carry
import Derived.Test.YtflokiejcjjbiaaGreatGLFits33
import Derived.Test.YtflokiejcjjbiaaGreatGLFits2
import Derived.Test.YtflokiejcjjbiaaGreatGLFits15
import Derived.Handy
import Derived.Deep.DrawnRows
import Derived.Deep.AppendLies
import Derived.Laws.OwnMore
import Derived.Test.YtflokiejcjjbiaaGreatGLFits31
import Derived.Test.YtflokiejcjjbiaaGreatGLFits24
set_option maxHeartbeats 16000000
set_option maxRecDepth 100000
set_option linter.unusedVariables false
set_option linter.unusedSimpArgs false
namespace Go.Proofs.YtflokiejcjjbiaaGreat
section
theorem set_pushed {α:Type}(xs:Array α)(a b:α):(xs.push a).setIfInBounds xs.size b=xs.push b:=by
 apply Array.ext
 ·simp
 ·intro i h1 h2;simp at h1 h2;rcases Nat.lt_or_ge i xs.size with h|h
  ·rw[Array.getElem_setIfInBounds_ne (by simp;omega) (by omega)];simp[Array.getElem_push,h]
  ·obtain rfl:i=xs.size:=by omega
   simp
theorem run_ins (w:World)(es:Array MapEntry)(c:Nat)(k:Int)(v:Value)(hf:Instr.findNow (.int .i64) (.int .i64 k) es.toList 0=some none):Sem.run Tryz.prog (Instr.mapUpdate 196 (.map (some w.heap.size)) (.int .i64 k) v) (w.alloc (.map es c))=.ok () (w.alloc (.map (es.push ⟨.int .i64 k,v,c⟩) (c+1))):=by
 have hk:Tryz.prog.underlying 3=some (.int .i64):=by kernel_rfl
 have hm:Tryz.prog.underlying 196=some (.map 3 170):=by kernel_rfl
 have hb:=heap_alloc_new w (.map es c);have hc:(Instr.checkKey false 10000 3 (.int .i64 k)).run Tryz.prog (w.alloc (.map es c))=.ok () (w.alloc (.map es c)):=MapKept.run_checkKey (k:=.int .i64 k) hk (by simp[MapKept.IsKey]) false 9999;simp[Instr.mapUpdate,run_underlying hm,MapKept.run_getObj_map hb,hc,MapKept.run_findKey hk hf,MapKept.run_setObj_map _ hb,Result.andThen];unfold World.alloc;dsimp only;rw[set_pushed]
theorem run_look (w:World)(es:Array MapEntry)(c:Nat)(k:Int)(i:Nat)(v:Value)(hf:Instr.findNow (.int .i64) (.int .i64 k) es.toList 0=some (some (i,v))):Sem.run Tryz.prog (Instr.lookup 196 (.map (some w.heap.size)) (.int .i64 k) false) (w.alloc (.map es c))=.ok v (w.alloc (.map es c)):=by
 have hk:Tryz.prog.underlying 3=some (.int .i64):=by kernel_rfl
 have hm:Tryz.prog.underlying 196=some (.map 3 170):=by kernel_rfl
 have hb:=heap_alloc_new w (.map es c);have hc:∀q,(Instr.checkKey q 10000 3 (.int .i64 k)).run Tryz.prog (w.alloc (.map es c))=.ok () (w.alloc (.map es c)):=fun q=>MapKept.run_checkKey (k:=.int .i64 k) hk (by simp[MapKept.IsKey]) q 9999;simp[Instr.lookup,run_underlying hm,MapKept.run_getObj_map hb,hc,MapKept.run_findKey hk hf,Result.andThen]
theorem ins0 (w:World)(v0:Value):Sem.run Tryz.prog (Instr.mapUpdate 196 (.map (some w.heap.size)) (.int .i64 0) v0) (w.alloc (.map #[] 0))=.ok () (w.alloc (.map #[⟨.int .i64 0,v0,0⟩] 1)):=
 run_ins w #[] 0 0 v0 rfl
theorem ins1 (w:World)(v0 v1:Value):Sem.run Tryz.prog (Instr.mapUpdate 196 (.map (some w.heap.size)) (.int .i64 1) v1) (w.alloc (.map #[⟨.int .i64 0,v0,0⟩] 1))=.ok () (w.alloc (.map #[⟨.int .i64 0,v0,0⟩,⟨.int .i64 1,v1,1⟩] 2)):=
 run_ins w #[⟨.int .i64 0,v0,0⟩] 1 1 v1 rfl
theorem ins2 (w:World)(v0 v1 v2:Value):Sem.run Tryz.prog (Instr.mapUpdate 196 (.map (some w.heap.size)) (.int .i64 2) v2) (w.alloc (.map #[⟨.int .i64 0,v0,0⟩,⟨.int .i64 1,v1,1⟩] 2))=.ok () (w.alloc (.map #[⟨.int .i64 0,v0,0⟩,⟨.int .i64 1,v1,1⟩,⟨.int .i64 2,v2,2⟩] 3)):=
 run_ins w #[⟨.int .i64 0,v0,0⟩,⟨.int .i64 1,v1,1⟩] 2 2 v2 rfl
theorem ins3 (w:World)(v0 v1 v2 v3:Value):Sem.run Tryz.prog (Instr.mapUpdate 196 (.map (some w.heap.size)) (.int .i64 3) v3) (w.alloc (.map #[⟨.int .i64 0,v0,0⟩,⟨.int .i64 1,v1,1⟩,⟨.int .i64 2,v2,2⟩] 3))=.ok () (w.alloc (.map #[⟨.int .i64 0,v0,0⟩,⟨.int .i64 1,v1,1⟩,⟨.int .i64 2,v2,2⟩,⟨.int .i64 3,v3,3⟩] 4)):=
 run_ins w #[⟨.int .i64 0,v0,0⟩,⟨.int .i64 1,v1,1⟩,⟨.int .i64 2,v2,2⟩] 3 3 v3 rfl
theorem ins4 (w:World)(v0 v1 v2 v3 v4:Value):Sem.run Tryz.prog (Instr.mapUpdate 196 (.map (some w.heap.size)) (.int .i64 4) v4) (w.alloc (.map #[⟨.int .i64 0,v0,0⟩,⟨.int .i64 1,v1,1⟩,⟨.int .i64 2,v2,2⟩,⟨.int .i64 3,v3,3⟩] 4))=.ok () (w.alloc (.map #[⟨.int .i64 0,v0,0⟩,⟨.int .i64 1,v1,1⟩,⟨.int .i64 2,v2,2⟩,⟨.int .i64 3,v3,3⟩,⟨.int .i64 4,v4,4⟩] 5)):=
 run_ins w #[⟨.int .i64 0,v0,0⟩,⟨.int .i64 1,v1,1⟩,⟨.int .i64 2,v2,2⟩,⟨.int .i64 3,v3,3⟩] 4 4 v4 rfl
theorem look0 (w:World)(v0 v1 v2 v3 v4:Value):Sem.run Tryz.prog (Instr.lookup 196 (.map (some w.heap.size)) (.int .i64 0) false) (w.alloc (.map #[⟨.int .i64 0,v0,0⟩,⟨.int .i64 1,v1,1⟩,⟨.int .i64 2,v2,2⟩,⟨.int .i64 3,v3,3⟩,⟨.int .i64 4,v4,4⟩] 5))=.ok v0 (w.alloc (.map #[⟨.int .i64 0,v0,0⟩,⟨.int .i64 1,v1,1⟩,⟨.int .i64 2,v2,2⟩,⟨.int .i64 3,v3,3⟩,⟨.int .i64 4,v4,4⟩] 5)):=
 run_look w #[⟨.int .i64 0,v0,0⟩,⟨.int .i64 1,v1,1⟩,⟨.int .i64 2,v2,2⟩,⟨.int .i64 3,v3,3⟩,⟨.int .i64 4,v4,4⟩] 5 0 0 v0 rfl
theorem look1 (w:World)(v0 v1 v2 v3 v4:Value):Sem.run Tryz.prog (Instr.lookup 196 (.map (some w.heap.size)) (.int .i64 1) false) (w.alloc (.map #[⟨.int .i64 0,v0,0⟩,⟨.int .i64 1,v1,1⟩,⟨.int .i64 2,v2,2⟩,⟨.int .i64 3,v3,3⟩,⟨.int .i64 4,v4,4⟩] 5))=.ok v1 (w.alloc (.map #[⟨.int .i64 0,v0,0⟩,⟨.int .i64 1,v1,1⟩,⟨.int .i64 2,v2,2⟩,⟨.int .i64 3,v3,3⟩,⟨.int .i64 4,v4,4⟩] 5)):=
 run_look w #[⟨.int .i64 0,v0,0⟩,⟨.int .i64 1,v1,1⟩,⟨.int .i64 2,v2,2⟩,⟨.int .i64 3,v3,3⟩,⟨.int .i64 4,v4,4⟩] 5 1 1 v1 rfl
theorem look2 (w:World)(v0 v1 v2 v3 v4:Value):Sem.run Tryz.prog (Instr.lookup 196 (.map (some w.heap.size)) (.int .i64 2) false) (w.alloc (.map #[⟨.int .i64 0,v0,0⟩,⟨.int .i64 1,v1,1⟩,⟨.int .i64 2,v2,2⟩,⟨.int .i64 3,v3,3⟩,⟨.int .i64 4,v4,4⟩] 5))=.ok v2 (w.alloc (.map #[⟨.int .i64 0,v0,0⟩,⟨.int .i64 1,v1,1⟩,⟨.int .i64 2,v2,2⟩,⟨.int .i64 3,v3,3⟩,⟨.int .i64 4,v4,4⟩] 5)):=
 run_look w #[⟨.int .i64 0,v0,0⟩,⟨.int .i64 1,v1,1⟩,⟨.int .i64 2,v2,2⟩,⟨.int .i64 3,v3,3⟩,⟨.int .i64 4,v4,4⟩] 5 2 2 v2 rfl
theorem look3 (w:World)(v0 v1 v2 v3 v4:Value):Sem.run Tryz.prog (Instr.lookup 196 (.map (some w.heap.size)) (.int .i64 3) false) (w.alloc (.map #[⟨.int .i64 0,v0,0⟩,⟨.int .i64 1,v1,1⟩,⟨.int .i64 2,v2,2⟩,⟨.int .i64 3,v3,3⟩,⟨.int .i64 4,v4,4⟩] 5))=.ok v3 (w.alloc (.map #[⟨.int .i64 0,v0,0⟩,⟨.int .i64 1,v1,1⟩,⟨.int .i64 2,v2,2⟩,⟨.int .i64 3,v3,3⟩,⟨.int .i64 4,v4,4⟩] 5)):=
 run_look w #[⟨.int .i64 0,v0,0⟩,⟨.int .i64 1,v1,1⟩,⟨.int .i64 2,v2,2⟩,⟨.int .i64 3,v3,3⟩,⟨.int .i64 4,v4,4⟩] 5 3 3 v3 rfl
theorem look4 (w:World)(v0 v1 v2 v3 v4:Value):Sem.run Tryz.prog (Instr.lookup 196 (.map (some w.heap.size)) (.int .i64 4) false) (w.alloc (.map #[⟨.int .i64 0,v0,0⟩,⟨.int .i64 1,v1,1⟩,⟨.int .i64 2,v2,2⟩,⟨.int .i64 3,v3,3⟩,⟨.int .i64 4,v4,4⟩] 5))=.ok v4 (w.alloc (.map #[⟨.int .i64 0,v0,0⟩,⟨.int .i64 1,v1,1⟩,⟨.int .i64 2,v2,2⟩,⟨.int .i64 3,v3,3⟩,⟨.int .i64 4,v4,4⟩] 5)):=
 run_look w #[⟨.int .i64 0,v0,0⟩,⟨.int .i64 1,v1,1⟩,⟨.int .i64 2,v2,2⟩,⟨.int .i64 3,v3,3⟩,⟨.int .i64 4,v4,4⟩] 5 4 4 v4 rfl
end
section
open Go.RowKit Go.Deep
attribute [local go_sem↓] Go.wp_at_zero Go.wp_at_succ
attribute [local go_sem] Go.run_makeMap_plain ins0 ins1 ins2 ins3 ins4 look0 look1 look2 look3 look4
theorem Tryz.infoRk:(Tryz.prog.info? 170).map (fun i=>(i.zero,i.size,i.bytes))=some (some .nilFunc,1,8):=by kernel_rfl
theorem ownsRow_blk {w w':World}{N e s n:Nat}{v:Value}{xs:List Value}(h:w.ownsRow N e s v n xs)(hb:Below w.heap.size w w'):w'.ownsRow N e s v n xs:=by
 refine⟨h.1,?_⟩;rcases h.2 with h0|⟨g,cap,cur,hv,hg,hc,h3⟩
 ·exact .inl h0
 ·exact .inr ⟨g,cap,cur,hv,hg,(hb.block g (lt_of_blk hc)).trans hc,h3⟩
theorem ownsRow_eq {w w':World}{N e s n g c:Nat}{xs:List Value}(h:w.ownsRow N e s (.slice (some ⟨g,0,none⟩) n c) n xs)(hb:w'.heap[g]?=w.heap[g]?):w'.ownsRow N e s (.slice (some ⟨g,0,none⟩) n c) n xs:=by
 refine⟨h.1,?_⟩;rcases h.2 with h0|⟨g',cap,cur,hv,hg,hc,h3⟩
 ·exact .inl h0
 ·obtain rfl:g=g':=by injection hv with h1;injection h1 with h1;injection h1
  exact .inr ⟨g,cap,cur,hv,hg,hb.trans hc,h3⟩
def RkS (m:Int)(f:Nat):Prop:=∀ (e:E7) (u:Value) (F:List Nat) (d:Nat) (w:World),e.wf→KidsIs w d u e.ks F→okE f e=true→wtE e≤1048576→
  Calls Tryz.prog 108 #[(.agg #[.int .i64 e.k,.int .i64 e.n,.int .i64 e.v.k,.int .i64 e.v.n,.string e.v.s,.string e.p,u])] w fun x w'=>(∃c,x=.returned c∧Rk m (fun b=>w.heap.size≤b∧b<w'.heap.size) w' c f e)∧Below w.heap.size w w'
theorem rk_zero (m:Int):RkS m 0:=fun _ _ _ _ _ _ _ h _=>by cases h
theorem rk_step {m:Int}{f:Nat}(hI:RkS m f):RkS m (f+1):=by
 intro e u F d w hw hk hok hwt;obtain⟨i0,hi,hz0,hz1,hz2⟩:=info_parts Tryz.infoRk;obtain⟨d,rfl⟩:=hk.succ;obtain⟨a,c,b,o,G,rfl,hl,hc,hG,_,ha⟩:=hk.pick;unfold maxLen at hc;simp only[okE,Bool.and_eq_true,List.all_eq_true]at hok;obtain⟨hp,hks⟩:=hok;have hn1:e.ks.length≤1048576:=by rw[wtE_eq]at hwt;omega
 have hkw:∀x∈e.ks,wtE x≤1048576:=fun x hx=>by have:=wtE_mem hx;rw[wtE_eq]at hwt;omega
 clear hk;go_enter Tryz.func108,Tryz.ntmps108;go_wp2;go_loopw [11] (fun i wr=> ∃ (k gb cp:Nat) (fs:List Value) (D:Nat→Prop),k≤e.ks.length∧i=.int .i64 k∧wr.heap[w.heap.size]?=some (.cells #[.int .i64 e.k,.int .i64 e.n,.int .i64 e.v.k,.int .i64 e.v.n,.string e.v.s,.string e.p,.slice a e.ks.length c] 39)∧wr.cell? ⟨w.heap.size+1+1,0,none⟩=some (.slice (some ⟨gb,0,none⟩) k cp)∧(∀q,wr.frozen? ⟨w.heap.size+1+1,q,none⟩=false)∧wr.ownsRow (w.heap.size+1) 170 1 (.slice (some ⟨gb,0,none⟩) k cp) k fs∧gb≠w.heap.size+1+1∧(∀b,D b→w.heap.size+1+1+1≤b∧b<wr.heap.size∧b≠gb)∧(∀ (j:Nat) (x:E7) (y:Value),e.ks[j]?=some x→fs[j]?=some y→Rk m D wr y f x)∧Below w.heap.size w wr∧w.heap.size+1+1+1≤wr.heap.size) (fun i _=>e.ks.length - (intOf i).toNat)
 case atStart=>
  refine⟨0,w.heap.size+1,0,[],fun _=>False,Nat.zero_le _,rfl,?_,by go_simp,fun q=>by go_simp,?_,by omega,fun _ h=>h.elim,fun j x y _ h=>by simp at h,bex,by simp⟩
  ·rw[bA8 _ _ _ (by simp;omega),bA8 _ _ _ (by simp)];exact heap_alloc_new _ _
  ·have:=(World.ownsRow_lit (base:=w.heap.size+1) (e:=170) (size:=1) (w.alloc (.cells #[.int .i64 e.k,.int .i64 e.n,.int .i64 e.v.k,.int .i64 e.v.n,.string e.v.s,.string e.p,.slice a e.ks.length c] 39)) #[] 0 (by simp) (by decide) rfl);simp only[World.size_alloc]at this;exact this.alloc _
 case round=>
  obtain⟨k,gb,cp,fs,D,hkk,rfl,hE,p0,pf,hO,hgK,hD,hR,hb,hzb⟩:=hrel;by_cases hlt:k<e.ks.length
  ·obtain⟨rfl,hblt,_,hL⟩:=ha k hlt;obtain⟨x,g,u,hx,hg,hxw,⟨c0,c1,c2,c3,c4,c5⟩,c6,hKx,hbr⟩:=hL.at hG hblt hb hlt;obtain⟨ax,cx,rfl,_,_⟩:=hKx.shape;have hxo:=hks x (mg8 hx);have hxt:=hkw x (mg8 hx);have hgb:=hO.lt gb rfl;have hml:k+1≤maxLen:=by unfold maxLen;omega
   have hby:(k+1)*8≤140737488355328:=by omega
   have HX:Hid (e.ks[k]?=some x):=hx;clear ha hL hx hks hkw;go_wp2_with fail;refine startE 5 (fun w'=>w'.cell? ⟨w.heap.size+1+1,0,none⟩=some (.slice (some ⟨gb,0,none⟩) k cp)∧w'.cell? ⟨wr.heap.size,0,none⟩=some (.int .i64 x.k)∧w'.cell? ⟨wr.heap.size,1,none⟩=some (.int .i64 x.n)∧w'.cell? ⟨wr.heap.size,2,none⟩=some (.int .i64 x.v.k)∧w'.cell? ⟨wr.heap.size,3,none⟩=some (.int .i64 x.v.n)∧w'.cell? ⟨wr.heap.size,4,none⟩=some (.string x.v.s)∧w'.cell? ⟨wr.heap.size,5,none⟩=some (.string x.p)∧w'.cell? ⟨wr.heap.size,6,none⟩=some (.slice ax x.ks.length cx)) (by kernel_rfl) ?_ (fun hHeld=>?_)
   ·exact⟨(cb8 (bA8 wr _ _ (by omega))).trans p0,by go_simp,by go_simp,by go_simp,by go_simp,by go_simp,by go_simp,by go_simp⟩
   refine tkE 0 15 rfl rfl ?_;refine tkE 1 16 rfl rfl ?_;refine onE 2 rfl fun K hK=>?_;go_simp;go_at_call 108;refine cM8 (hI x (.slice ax x.ks.length cx) g d _ hxw (hKx.below ?hbb) hxo hxt) ?_
   case hbb=>exact bex
   rintro y w2 ⟨⟨cl,rfl,hC⟩,hb2⟩;obtain⟨fn,cap0,rfl,hEnt,_⟩:=id hC;have hzw2:=hb2.size;simp at hzw2;have bel2:Below wr.heap.size wr w2:=bex;have pf2:∀q,w2.frozen? ⟨w.heap.size+1+1,q,none⟩=false:=fun q=>((bc8 bel2).2 _ q (by omega)).trans (pf q);have p02:=((bc8 bel2).1 (w.heap.size+1+1) 0 (by omega)).trans p0;have hE2:=(bel2.block w.heap.size (by omega)).trans hE;have hO2:=ownsRow_blk hO bel2;have q0:w2.cell? ⟨wr.heap.size,0,none⟩=some (.int .i64 x.k):=cL8 hb2 (by go_simp);have q1:w2.cell? ⟨wr.heap.size,1,none⟩=some (.int .i64 x.n):=cL8 hb2 (by go_simp);have q2:w2.cell? ⟨wr.heap.size,2,none⟩=some (.int .i64 x.v.k):=cL8 hb2 (by go_simp);have q3:w2.cell? ⟨wr.heap.size,3,none⟩=some (.int .i64 x.v.n):=cL8 hb2 (by go_simp);have q4:w2.cell? ⟨wr.heap.size,4,none⟩=some (.string x.v.s):=cL8 hb2 (by go_simp);have q5:w2.cell? ⟨wr.heap.size,5,none⟩=some (.string x.p):=cL8 hb2 (by go_simp);have q6:w2.cell? ⟨wr.heap.size,6,none⟩=some (.slice ax x.ks.length cx):=cL8 hb2 (by go_simp);try go_wp2_with fail
   refine hK.out _ _ ?_ (fun hHeld2=>?_)
   ·intro _;exact⟨p02,q0,q1,q2,q3,q4,q5,q6⟩
   clear hK;replace hHeld2:=hHeld2 (by decide);refine onE 3 rfl fun K hK=>?_;go_simp;refine hK.out _ _ ?_ (fun hHeld3=>?_)
   ·intro _;exact⟨(cb8 (bA8 w2 _ _ (by omega))).trans p02,(cb8 (bA8 w2 _ _ (by omega))).trans q0,(cb8 (bA8 w2 _ _ (by omega))).trans q1,(cb8 (bA8 w2 _ _ (by omega))).trans q2,(cb8 (bA8 w2 _ _ (by omega))).trans q3,(cb8 (bA8 w2 _ _ (by omega))).trans q4,(cb8 (bA8 w2 _ _ (by omega))).trans q5,(cb8 (bA8 w2 _ _ (by omega))).trans q6⟩
   clear hK;replace hHeld3:=hHeld3 (by decide);refine onE 4 rfl fun K hK=>?_;refine step_append_lies _ (by rfl) _ _ _ (by rfl) (w.heap.size+1) 170 i0 _ 1 8 Tryz.underlying172 hi hz0 hz1 hz2 rfl (by omega) (.slice (some ⟨gb,0,none⟩) k cp) k fs (by rfl) (hO2.alloc _) ⟨w2.heap.size,0,none⟩ 1 1 [.func (.func fn) #[] cap0] (by rfl) (by rfl) (World.news_of_block (cs:=#[.func (.func fn) #[] cap0]) (t:=170) (fr:=(0,0)) (heap_alloc_new w2 _)) (by simp[Value.oneCell']) (by omega) hml hby (by simp;omega) (w2.heap.size+1) (by simp) ?_;intro gg cap w3 hown3 hgrow hat hlt3;have hz3:=hgrow.size;simp at hz3;have farb:∀b,b<w2.heap.size→b≠gb→w3.heap[b]?=w2.heap[b]?:=fun b hb hne=>(hgrow.block b (by simp;omega) (by simp[Value.ownBlock];exact fun h=>hne h)).trans (bA8 _ _ _ hb);have pf3:∀q,w3.frozen? ⟨w.heap.size+1+1,q,none⟩=false:=fun q=>(fb8 (farb _ (by omega) (Ne.symm hgK))).trans (pf2 q);have p03:=(cb8 (o:=0) (farb (w.heap.size+1+1) (by omega) (Ne.symm hgK))).trans p02;have hE3:=(farb w.heap.size (by omega) (by omega)).trans hE2;have far0:∀q,w3.cell? ⟨wr.heap.size,q,none⟩=w2.cell? ⟨wr.heap.size,q,none⟩:=fun q=>cb8 (farb wr.heap.size (by omega) (by omega));have bel3:Below w.heap.size w w3:=Below.grown bex hgrow (by simp;omega) (fun b hb=>by simp[Value.ownBlock]at hb;omega);refine hK.out _ _ ?_ (fun hHeld4=>?_)
   ·intro _;exact⟨p03,(far0 _).trans q0,(far0 _).trans q1,(far0 _).trans q2,(far0 _).trans q3,(far0 _).trans q4,(far0 _).trans q5,(far0 _).trans q6⟩
   clear hK;replace hHeld4:=hHeld4 (by decide);refine onE 5 rfl fun K hK=>?_;go_simp;refine hK.out _ _ ?_ (fun hHeld5=>?_)
   ·exact fun h=>absurd rfl h
   clear hK hHeld5;refine doneE (by kernel_rfl) ?_ _;have hgg:gg=gb∨gg=w2.heap.size+1:=by
    rcases hat with h|h
    ·exact .inl (by simpa [Value.ownBlock]using h.symm)
    ·exact .inr h
   have hfl:fs.length=k:=by have:=hO.1;omega
   generalize hcl:(Value.func (Fn.func fn) #[] cap0)=cl at*;have same:∀b,b≠w.heap.size+1+1→(w3.setCell ⟨w.heap.size+1+1,0,none⟩ (.slice (some ⟨gg,0,none⟩) (k+1) cap)).heap[b]?=w3.heap[b]?:=fun b hb=>bS8 _ _ _ _ (by simpa using hb);have E1:=(same w.heap.size (by omega)).trans hE3;have P1:(w3.setCell ⟨w.heap.size+1+1,0,none⟩ (.slice (some ⟨gg,0,none⟩) (k+1) cap)).cell? ⟨w.heap.size+1+1,0,none⟩=some (.slice (some ⟨gg,0,none⟩) (k+1) cap):=cS8 _ _ _ p03;have PF:∀q,(w3.setCell ⟨w.heap.size+1+1,0,none⟩ (.slice (some ⟨gg,0,none⟩) (k+1) cap)).frozen? ⟨w.heap.size+1+1,q,none⟩=false:=fun q=>by simpa using pf3 q
   have O1:=ownsRow_eq hown3 (same gg (by omega));have D1:∀b,(D b∨(wr.heap.size+1≤b∧b<w2.heap.size))→w.heap.size+1+1+1≤b∧b<(w3.setCell ⟨w.heap.size+1+1,0,none⟩ (.slice (some ⟨gg,0,none⟩) (k+1) cap)).heap.size∧b≠gg:=by
    intro b hb;rw[World.size_setCell];rcases hb with hb|hb
    ·have:=hD b hb;omega
    ·omega
   have R1:∀ (j:Nat) (x:E7) (y:Value),e.ks[j]?=some x→(fs++ [cl])[j]?=some y→Rk m (fun b=>D b∨(wr.heap.size+1≤b∧b<w2.heap.size)) (w3.setCell ⟨w.heap.size+1+1,0,none⟩ (.slice (some ⟨gg,0,none⟩) (k+1) cap)) y f x:=by
    intro j x' y hx' hy;rcases Nat.lt_or_ge j k with hj|hj
    ·rw[List.getElem?_append_left (by omega)]at hy;refine(hR j x' y hx' hy).keep (fun b hb=> .inl hb) fun b hb=>?_;have:=hD b hb;exact((same b (by omega)).trans (farb b (by omega) (by omega))).trans (bel2.block b (by omega))
    ·rw[List.getElem?_append_right (by omega)]at hy;have hjk:j=k:=by
      have:j -fs.length=0:=by
       rcases Nat.eq_zero_or_pos (j -fs.length)with h|h
       ·exact h
       ·rw[List.getElem?_eq_none (by simp;omega)]at hy;cases hy
      omega
     subst hjk;rw[hfl,Nat.sub_self]at hy;simp at hy;subst hy;obtain rfl:x=x':=Option.some.inj (HX.out.symm.trans hx');refine hC.keep (fun b hb=> .inr ?_) fun b hb=>?_
     ·simp at hb;omega
     ·simp at hb;exact(same b (by omega)).trans (farb b (by omega) (by omega))
   have B1:Below w.heap.size w (w3.setCell ⟨w.heap.size+1+1,0,none⟩ (.slice (some ⟨gg,0,none⟩) (k+1) cap)):=bel3.setCell (by simp;omega) _;have Z1:w.heap.size+1+1+1≤(w3.setCell ⟨w.heap.size+1+1,0,none⟩ (.slice (some ⟨gg,0,none⟩) (k+1) cap)).heap.size:=by rw[World.size_setCell];omega
   clear hown3 hgrow hat far0 farb hC hb2 hR hO hO2 p03 pf3 hHeld hHeld2 hHeld3 hHeld4 q0 q1 q2 q3 q4 q5 q6 same hcl;go_wp2;exact⟨⟨k+1,gg,cap,_,_,hlt,by simp,E1,P1,PF,O1,by omega,D1,R1,B1,Z1⟩,by simp[intOf];omega⟩
  ·obtain rfl:k=e.ks.length:=by omega
   have e0:wr.cell? ⟨w.heap.size,0,none⟩=some (.int .i64 e.k):=by simp[World.cell?,hE]
   have hgl:=hO.lt gb rfl;have hfl:=hO.1;have hcp:cp≤maxLen:=by
    rcases hO.2 with⟨h,_⟩|⟨g,cap,cur,h,_,_,_,h4,_⟩
    ·cases h
    ·injection h with h1 h2 h3;omega
   have KR:KidsRk m (fun b=>w.heap.size≤b∧b<wr.heap.size) wr (w.heap.size+1+1) gb cp f e.ks fs:=⟨hcp,fun b hb=>hb.2,⟨by omega,by omega⟩,fun _=>⟨by omega,hgl.2⟩,p0,by omega,fun i x y hx hy=>⟨(hO.cellAt i (by have:=(gE1 hx).1;omega)).trans hy,(hR i x y hx hy).keep (fun b hb=>by have:=hD b hb;omega) (fun _ _=>rfl)⟩⟩;have hDE:w.heap.size≤w.heap.size∧w.heap.size<wr.heap.size:=by omega
   clear ha hks hkw hR hO hD hI;by_cases h0:e.k=0
   ·have RK:=rk_0 (m:=m) (D:=fun b=>w.heap.size≤b∧b<wr.heap.size) (w:=wr) (f:=f) hE hDE h0;rw[h0]at e0;clear KR hE hp h0;go_wp2;go_returns;exact⟨⟨_,rfl,RK.keep (fun b hb=>by simp;omega) (fun b hb=>bA8 _ _ _ hb.2)⟩,bex⟩
   by_cases h1:e.k=1
   ·have RK:=rk_1 (m:=m) (D:=fun b=>w.heap.size≤b∧b<wr.heap.size) (w:=wr) (f:=f) hE hDE h1;rw[h1]at e0;clear KR hE hp h0 h1;go_wp2;go_returns;exact⟨⟨_,rfl,RK.keep (fun b hb=>by simp;omega) (fun b hb=>bA8 _ _ _ hb.2)⟩,bex⟩
   by_cases h2:e.k=2
   ·have RK:=rk_2 (m:=m) (D:=fun b=>w.heap.size≤b∧b<wr.heap.size) (w:=wr) (f:=f) hE hDE KR h2;rw[h2]at e0;clear KR hE hp h0 h1 h2;go_wp2;go_returns;exact⟨⟨_,rfl,RK.keep (fun b hb=>by simp;omega) (fun b hb=>bA8 _ _ _ hb.2)⟩,bex⟩
   by_cases h3:e.k=3
   ·have RK:=rk_3 (m:=m) (D:=fun b=>w.heap.size≤b∧b<wr.heap.size) (w:=wr) (f:=f) KR h3;rw[h3]at e0;clear KR hE hp h0 h1 h2 h3;go_wp2;go_returns;exact⟨⟨_,rfl,RK.keep (fun b hb=>by simp;omega) (fun b hb=>bA8 _ _ _ hb.2)⟩,bex⟩
   by_cases h4:e.k=4
   ·have RK:=rk_4 (m:=m) (D:=fun b=>w.heap.size≤b∧b<wr.heap.size) (w:=wr) (f:=f) KR h4;rw[h4]at e0;clear KR hE hp h0 h1 h2 h3 h4;go_wp2;go_returns;exact⟨⟨_,rfl,RK.keep (fun b hb=>by simp;omega) (fun b hb=>bA8 _ _ _ hb.2)⟩,bex⟩
   rw[partsB_x h0 h1 h2 h3 h4]at hp;cases hp
theorem rk_any (m:Int):∀f,RkS m f
 |0=>rk_zero m
 |f+1=>rk_step (rk_any m f)
end
section
open Go.RowKit Go.Deep Go.ChangeShapes Go.WideShapes
theorem sumS_snoc (V:E7→List V3→V3)(e:E7)(a:List C2)(x:C2):sumS V e (a++ [x])=addS V e (sumS V e a) x:=by unfold sumS;rw[List.foldl_append];rfl
theorem sumOver_any {V:E7→List V3→V3}{e:E7}{fn:Nat}{cap:Array Value}(rv:Value)(cs:List C2)(F:List Nat)(w:World)(hr:RowsF w rv cs F)(hn:cs.length≤1048576)(hEn:Ent fn)(hCl:∀ (Y:World) (v:Value) (vs:List V3),Below w.heap.size w Y→RowIs Y v vs→RowV vs→Calls Tryz.prog fn (#[v]++cap) Y fun q w'=>q=.returned (.agg #[.int .i64 (V e vs).k,.int .i64 (V e vs).n,.string (V e vs).s])∧Below Y.heap.size Y w')(hrow:∀c∈cs,RowV c.r):Calls Tryz.prog 142 #[.func (.func fn) #[] cap,rv] w fun q w'=>q=.returned (.agg #[.int .i64 (sumV (sumS V e cs)).k,.int .i64 (sumV (sumS V e cs)).n,.string ⟨#[]⟩])∧Below w.heap.size w w':=by
 obtain⟨a,c,b,o,G0,rfl,hl,hc,_,hG0,_,hC,ha⟩:=hr.pick;unfold maxLen at hc;clear hr;unfold Ent at hEn;go_enter Tryz.func142,Tryz.ntmps142;go_wp2_with fail;go_loopw [12] (fun i wr=> ∃ (k:Nat),k≤cs.length∧i=.int .i64 k∧wr.cell? ⟨w.heap.size,0,none⟩=some (.int .i64 0)∧wr.cell? ⟨w.heap.size,1,none⟩=some (.int .i64 0)∧wr.cell? ⟨w.heap.size,2,none⟩=some (.string ⟨#[]⟩)∧(∀q,wr.frozen? ⟨w.heap.size,q,none⟩=false)∧wr.cell? ⟨w.heap.size+1,0,none⟩=some (.int .i64 (sumV (sumS V e (cs.take k))).k)∧wr.cell? ⟨w.heap.size+1,1,none⟩=some (.int .i64 (sumV (sumS V e (cs.take k))).n)∧wr.cell? ⟨w.heap.size+1,2,none⟩=some (.string ⟨#[]⟩)∧(∀q,wr.frozen? ⟨w.heap.size+1,q,none⟩=false)∧Below w.heap.size w wr∧w.heap.size+1+1≤wr.heap.size) (fun i _=>cs.length - (intOf i).toNat)
 case atStart=>exact⟨0,Nat.zero_le _,rfl,by go_simp,by go_simp,by go_simp,fun q=>by go_simp,by go_simp;rfl,by go_simp;rfl,by go_simp,fun q=>by go_simp,bex,by simp⟩
 case round=>
  obtain⟨k,hk,rfl,r0,r1,r2,rf,p0,p1,p2,pf,hb,hzb⟩:=hrel;by_cases hlt:k<cs.length
  ·obtain⟨rfl,hblt,_⟩:=ha k hlt;obtain⟨x,u0,g0,hx,_,c0,hR,c1,hbr⟩:=hC.at hG0 hblt hb hlt;obtain⟨a0,n0,rfl⟩:=hR.shape;have HT:Hid (cs.take (k+1)=cs.take k++ [x]):=take_snoc hx;have hkI:(k:Int)<cs.length:=by omega
   have hxV:RowV x.r:=hrow x (mg8 hx);have hE:∀Y,Below wr.heap.size wr Y→Calls Tryz.prog fn (#[.slice a0 x.r.length n0]++cap) Y fun q w'=>q=.returned (.agg #[.int .i64 (V e x.r).k,.int .i64 (V e x.r).n,.string (V e x.r).s])∧Below Y.heap.size Y w':=fun Y hY=>hCl Y _ x.r (hb.trans (hY.mono hb.size)) (hR.below hY).is hxV;obtain⟨vv,HVV⟩:∃q,Hid (V e x.r=q):=⟨_,rfl⟩;rw[HVV.out]at hE;obtain⟨s,HS⟩:∃q,Hid (sumS V e (cs.take k)=q):=⟨_,rfl⟩;rw[HS.out]at p0 p1;clear ha hC hx hCl;go_wp2_with fail;try rw[hEn,Oper.upon_enter]
   try rw[Oper.upon_enter]
   refine cM8 (hE _ bex) ?_;rintro z w4 ⟨rfl,hb4⟩;have hz4:=hb4.size;simp at hz4;have e14:w4.cell? ⟨wr.heap.size,1,none⟩=some (.int .i64 x.n):=cL8 hb4 (by go_simp);have bel4:Below wr.heap.size wr w4:=bex;have hb1:Below w.heap.size w w4:=hb.trans (bel4.mono hb.size);have p04:=((bc8 bel4).1 (w.heap.size+1) 0 (by omega)).trans p0;have p14:=((bc8 bel4).1 (w.heap.size+1) 1 (by omega)).trans p1;have p24:=((bc8 bel4).1 (w.heap.size+1) 2 (by omega)).trans p2;have pf4:∀q,w4.frozen? ⟨w.heap.size+1,q,none⟩=false:=fun q=>((bc8 bel4).2 _ q (by omega)).trans (pf q);have r04:=((bc8 bel4).1 w.heap.size 0 (by omega)).trans r0;have r14:=((bc8 bel4).1 w.heap.size 1 (by omega)).trans r1;have r24:=((bc8 bel4).1 w.heap.size 2 (by omega)).trans r2;have rf4:∀q,w4.frozen? ⟨w.heap.size,q,none⟩=false:=fun q=>((bc8 bel4).2 _ q (by omega)).trans (rf q);have hzw4:w.heap.size+1+1≤w4.heap.size:=by omega
   have hlt4:w.heap.size+1<w4.heap.size:=by omega
   have hlt5:w.heap.size<w4.heap.size:=by omega
   have hlt6:wr.heap.size<w4.heap.size:=by omega
   clear hb4 hE bel4 hb hR c0 c1 p0 p1 p2 pf r0 r1 r2 rf hEn;by_cases h1:vv.k=1
   ·have HT2:Hid (sumS V e (cs.take (k+1))=some (wrap64 (s.getD 0+wrap64 (vv.n*x.n)))):=by
     show _=_;rw[HT.out,sumS_snoc,HS.out];unfold addS;rw[HVV.out,if_pos h1]
    have hsn:(sumV s).n=s.getD 0:=by cases s<;>rfl
    rw[hsn]at p14;go_wp2_with fail;exact⟨⟨k+1,hlt,by simp,by go_simp,by go_simp,by go_simp,fun q=>by go_simp,by rw[HT2.out];go_simp;rfl,by rw[HT2.out];go_simp;rfl,by go_simp,fun q=>by go_simp,bex,by simp;omega⟩,by simp[intOf];omega⟩
   ·have HT2:Hid (sumS V e (cs.take (k+1))=s):=by
     show _=_;rw[HT.out,sumS_snoc,HS.out];unfold addS;rw[HVV.out,if_neg h1]
    go_wp2_with fail;exact⟨⟨k+1,hlt,by simp,by go_simp,by go_simp,by go_simp,fun q=>by go_simp,by rw[HT2.out];go_simp,by rw[HT2.out];go_simp,by go_simp,fun q=>by go_simp,bex,by simp;omega⟩,by simp[intOf];omega⟩
  ·obtain rfl:k=cs.length:=by omega
   rw[List.take_length]at p0 p1;go_wp2;refine bodyPost_ret (v:=.agg #[.int .i64 (sumV (sumS V e cs)).k,.int .i64 (sumV (sumS V e cs)).n,.string ⟨#[]⟩]) (by simp[results,Tryz.results142,go_sem, *]) rfl ⟨rfl,?_⟩;exact bex
end
end Go.Proofs.YtflokiejcjjbiaaGreat
