/- For every argument, whatever memory it lies in, the statement's function on Answer returns true, and each argument reads afterwards as it read before; the listed variable errors.errorType holds the handle that the program's text lays (the card ties it). -/
import Derived.Test.YteekfcdllaceoaaGreatDoorLAnswerM
import Derived.Test.YteekfcdllaceoaaGreatDoorRows
import Derived.Test.YteekfcdllaceoaaGreatDoorTie
import Derived.Test.YteekfcdllaceoaaGreatDoorCards
set_option maxHeartbeats 16000000
set_option maxRecDepth 100000
set_option linter.unusedVariables false
set_option linter.unusedSimpArgs false
namespace Go.Proofs.YteekfcdllaceoaaGreatDoor.fnExactAnswer
open Go.ChangeShapes Go.WideShapes Go.ChangeAt Go.RowKit Go.Joins
open Go.ChangeMaps (open_string shut_string)
theorem own:ownKnob Tryz.prog.godebug=none:=by kernel_rfl
theorem A8X:laidOutB Tryz.prog=true:=by kernel_rfl
theorem C13:Tryz.prog.globalNamed "errors.errorType" =some 0:=by kernel_rfl
theorem B85:(Tryz.prog.cutTypes.find? (·.1== "internal/reflectlite.rtype")).map (·.2)=some 187:=by kernel_rfl
theorem B7a:((List.range 349).filter fun t=>Tryz.prog.rowNamed t [101,114,114,111,114])=[73]:=by kernel_rfl
theorem B6y:Tryz.prog.types.size=349:=by kernel_rfl
theorem C33 {W:World}(h:laidMetH Tryz.prog Rows.fnExactAnswerRow.laid W):o6 W:=by
 have h':laidMet Tryz.prog [] W/\handlesMet Tryz.prog Rows.fnExactAnswerRow.laid W:=h;obtain⟨name,u,ty,e1,e2,e3,e4,e5⟩:=h'.2 _ (List.mem_singleton.2 rfl);have en:name=[101,114,114,111,114]:=(Option.some.inj e1).symm;subst en;obtain rfl:=Option.some.inj (B85.symm.trans e2);have hm:ty∈(List.range 349).filter fun t=>Tryz.prog.rowNamed t [101,114,114,111,114]:=List.mem_filter.2 ⟨List.mem_range.2 (by rw[<-B6y];exact e3),e4⟩;rw[B7a]at hm;obtain rfl:=List.mem_singleton.1 hm;have hh:typeHandle Tryz.prog 73=.pointer (some ⟨2,73,none⟩):=by kernel_rfl
 rw[hh]at e5;unfold o6
 simpa using World.var?_cell C13 e5 0
theorem C0K (os:Os)(started:os.Started)(H:Type)(enc:TypeId×Value->H):ReturnsInHanded {} Tryz.checked os 3 .any ((OpenSpec.ofChange Rows.fnExactAnswerSpec).preRow enc Tryz.prog Tryz.f3 [] false Rows.fnExactAnswerRow.laid) (((OpenSpec.ofChange Rows.fnExactAnswerSpec).at (fun _ _ _=>0)).post enc Tryz.prog Tryz.f3 false true false false):=by
 refine returnsInHanded_of_row (C:=Tryz.checked) (s:=OpenSpec.ofChange Rows.fnExactAnswerSpec) (F:=fun _ _ _=>0) own started (by kernel_rfl) Tryz.func3 (ChangeSpec.witness_shaped (enc:=enc) (C:=Tryz.checked) (os:=os) (s:=Rows.fnExactAnswerSpec) (X:=fun w _=>laidMetH Tryz.prog Rows.fnExactAnswerRow.laid w) false {World.holding Tryz.prog os ⟨#[],#[],[]⟩with heap:=(World.holding Tryz.prog os ⟨#[],#[],[]⟩).heap.modify 0 fun| .cells _ t fr=> .cells #[.iface 187 (.agg #[.pointer (some ⟨2,73,none⟩)])] t fr|o=>o} #[.slice none 0 0,.agg #[.int .i64 0,.string ⟨#[]⟩,.int .i64 0,.int .i64 0,.int .i64 0,.int .i64 0,.string ⟨#[]⟩,.string ⟨#[]⟩,.slice none 0 0,.slice none 0 0,.int .i64 0,.slice none 0 0]] 8 rfl (World.shaped_of_ZipB (by kernel_rfl) (by kernel_rfl)) (by kernel_rfl) (by kernel_rfl) (by kernel_rfl) (laidMetH_of_parts (laidMet_nil _ _) (by kernel_rfl))) ?_;intro W base args ds gs before hval0 hW _ _ _ hL hsh _;have A6f:∀ (j:Nat) t v,Tryz.f3.params[j]?=some t->args[j]?=some v->Value.okWide Tryz.prog W .any base t v:=hval0;have hW':=hW;obtain⟨p,q,hA0,hV,rfl,hfz,hnd⟩:=hW;have hA:DataW.TrodAll enc Tryz.prog W 0 (fun _=>true) true Tryz.f3.params.toList args.toList ds p:=hA0;rw[Tryz.params3]at hA A6f;obtain⟨v0,vs0,d0,ds0,p0,q0,hargs,rfl,rfl,h0,r0⟩:=trodAll_cons hA;obtain⟨v1,vs1,d1,ds1,p1,q1,rfl,rfl,rfl,h1,r1⟩:=trodAll_cons r0;obtain⟨rfl,rfl,rfl⟩:=trodAll_nil r1;obtain rfl:args=#[v0,v1]:=by cases args;simp_all
 obtain⟨rfl,rfl⟩:=trodVars_none hV;have k0:=h0;have lt0:∀x∈p0,x.block<W.heap.size:=by obtain⟨m,hm⟩:=k0;exact DataW.trod_lt m _ _ _ hm
 obtain⟨al0,ll0,cl0,rfl⟩:=okWide_slice Tryz.underlying22 (A6f 0 22 v0 rfl rfl);obtain⟨fu0,hfu0⟩:=h0;obtain⟨rs0,hr0,hw0⟩:=B3l (w:=W) (v:=.slice al0 ll0 cl0) Tryz.underlying22 Tryz.underlying59 (by kernel_rfl) rfl rfl (by kernel_rfl) (by kernel_rfl) Tryz.underlying9 Tryz.underlying57 rfl rfl (by kernel_rfl) (by kernel_rfl) Tryz.underlying3 Tryz.underlying55 Tryz.underlying155 (by kernel_rfl) rfl rfl (by kernel_rfl) (by kernel_rfl) Tryz.underlying153 Tryz.underlying3 Tryz.underlying24 (by kernel_rfl) rfl rfl rfl (by kernel_rfl) (by kernel_rfl) (by kernel_rfl) Tryz.underlying3 Tryz.underlying3 Tryz.underlying9 (by simpa [Value.cells]using hfu0);have k1:=h1;have lt1:∀x∈p1,x.block<W.heap.size:=by obtain⟨m,hm⟩:=k1;exact DataW.trod_lt m _ _ _ hm
 obtain⟨p1',ue1,us1,u1,F1,D1,n1,rfl,hw1,hr1⟩:=C2u (A6f 1 30 v1 rfl rfl) h1;clear hA0 hval0;have hE:o6 W:=C33 hL;obtain⟨m,hm⟩:=Tryz.laysM144.s1_3 W hsh;refine(B21 (.slice al0 ll0 cl0) rs0 hw0 p1' ue1 us1 u1 F1 D1 n1 hw1 m W hr0 hr1 hm hE).mono fun e W' ⟨he,bel⟩=>?_;subst he;exact⟨_,rfl,_,_,_,[],_,[],hW',trodAll_mk1 (shut_bool Tryz.underlying4 _),(trodAll_cons_mk (Below.trod A8X (by kernel_rfl) (of_decide_eq_true (by kernel_rfl)) k0 bel lt0) (trodAll_cons_mk (Below.trod A8X (by kernel_rfl) (of_decide_eq_true (by kernel_rfl)) k1 bel lt1) trodAll_mk0)),rfl,bel.frame _,fun h=>by cases h⟩
theorem C0i:Rows.FnExactAnswerSaid:=
 OpenClaim.holds_of_wide 3 Tryz.f3 rfl rfl rfl rfl rfl rfl rfl ⟨rfl,rfl,rfl,rfl,rfl⟩ rfl rfl rfl rfl rfl (by kernel_rfl) Tryz.func3 (by kernel_rfl) (of_decide_eq_true (by kernel_rfl)) (by unfold Func.isWrapper;first|(rw[if_pos (by decide+kernel)];kernel_rfl)|(rw[if_neg (by decide+kernel)];exact⟨rfl,rfl⟩)) (fun os started H enc _=>C0K os started H enc)
theorem card:Rows.FnExactAnswerCardSaid:=
 Claim7.holds_tied_plain_at .later [] [.handle] true (true, "44fdf0fadfcfdd8fe69c13a191075ec24cff97c68adc4436025c24f36f5b1910") true C0i (fun _ h=>by cases h) (by kernel_rfl) (fun _ h=>by cases h) fnExactAnswer_row_tie rfl ⟨rfl,rfl⟩ (by kernel_rfl) rfl (fun f fn hf hfn=>by
   obtain rfl:f=3:=Option.some.inj ((show Tryz.prog.funcNamed "loop.example/g00312/laws.FnExactAnswer" =some 3 by kernel_rfl).symm.trans hf)|>.symm
   obtain rfl:fn=Tryz.f3:=(Option.some.inj (Tryz.func3.symm.trans hfn)).symm;exact⟨by kernel_rfl,fun j t ht=>by
    rw[Tryz.params3]at ht;have hm:t∈[22,30]:=by simpa using Array.mem_of_getElem? ht
    have M1:([22,30].all fun u=>!Tryz.prog.wantsStandIn u)=true:=by kernel_rfl
    exact(show Tryz.prog.wantsStandIn t=false by simpa using List.all_eq_true.1 M1 t hm)⟩)
  (by kernel_rfl)
end Go.Proofs.YteekfcdllaceoaaGreatDoor.fnExactAnswer
namespace Go.Proofs.YteekfcdllaceoaaGreatDoor
theorem fnExactAnswer_card_holds:Rows.FnExactAnswerCardSaid:=fnExactAnswer.card
end Go.Proofs.YteekfcdllaceoaaGreatDoor
