/- Own text. Whether relations are a database: the contract of spec.DbOk. -/
import Derived.Test.YtjhhmnjpojnoiaaGreatDoorTkL
import Derived.Test.YtjhhmnjpojnoiaaGreatDoorGLWithViews10
import Derived.Test.YtjhhmnjpojnoiaaGreatDoorGLWithViews1
import Derived.Handy
import Derived.Deep.RegionHeld3
set_option maxHeartbeats 16000000
set_option maxRecDepth 100000
set_option linter.unusedVariables false
set_option linter.unusedSimpArgs false
namespace Go.Proofs.YtjhhmnjpojnoiaaGreatDoor
section
section
open Go.RowKit
theorem specDbOk_any (v:Value)(rs:List R3)(w:World)(hw:RsWf rs)(hr:RelsIs w v rs):Calls Tryz.prog 40 #[v] w fun e w'=>e=.returned (.bool (okDb rs))∧Below w.heap.size w w':=by
 obtain⟨a,c,b,o,rfl,hl,hc,ha⟩:=hr.pick;unfold maxLen at hc;clear hr;go_enter Tryz.func40,Tryz.ntmps40;go_wp2;go_loopw [3] (fun i wr=> ∃ (k:Nat) (q:Int),k≤rs.length∧q=k∧i=.int .i64 q∧Below w.heap.size w wr∧okRs none rs=okRs (prevR rs k) (rs.drop k)) (fun i _=>rs.length - (intOf i).toNat)
 case atStart=>exact⟨0,0,Nat.zero_le _,rfl,rfl,by go_grown,by simp[prevR]⟩
 case round=>
  obtain⟨k,q,hk,hq,rfl,hb,heq⟩:=hrel;have HE:Hid (okRs none rs=okRs (prevR rs k) (rs.drop k)):=heq;have hzb:=hb.size;clear heq;by_cases hlt:k<rs.length
  ·obtain⟨rfl,hblt,hL⟩:=ha k hlt;obtain⟨x,u,hx,c0,c1,c2,hR,hbr⟩:=hL.at hblt hb hlt;obtain⟨ur,lr,cr,rfl⟩:=hR.shape;obtain⟨hxs,_,hxw⟩:=hw x (mg8 hx);have HS:Hid (okRs (prevR rs k) (rs.drop k)=(nameB x.s &&okPlain x.W x.cs &&okPrevR (prevR rs k) x &&okRs (prevR rs (k+1)) (rs.drop (k+1)))):=okRs_step hx;by_cases hnm:nameB x.s=true;rotate_left
   ·have hf:nameB x.s=false:=by simpa using hnm
    clear ha hw hL hx;subst hq;go_wp2_with fail;refine wp_region_held_drew (S:=(fun w'=>w'.cell? ⟨b,o+k*3,none⟩=some (.string x.s)∧w'.cell? ⟨b,o+k*3+1,none⟩=some (.int .i64 x.W)∧w'.cell? ⟨b,o+k*3+2,none⟩=some (.slice ur lr cr))) (by kernel_rfl) ?_ (fun hHeld=>?_)
    ·refine⟨?_,?_,?_⟩<;>first|(go_simp;done)|(exact cL8 (by assumption) (by go_simp))
    refine tlY 0 10 rfl rfl ?_;refine tlY 1 11 rfl rfl ?_;refine tlY 2 12 rfl rfl ?_;refine tlY 3 13 rfl rfl ?_;refine tlY 4 14 rfl rfl ?_;refine rdH 5 rfl fun K hK=>?_;go_simp;go_at_call 38;refine(specName_any x.s _ hxs).mono ?_;rintro e w1 ⟨rfl,rfl⟩;try go_wp2_with fail
    refine hK.out _ _ ?_ (fun hHeld5=>?_)
    ·refine⟨?_,?_,?_⟩<;>first|(go_simp;done)|(exact cL8 (by assumption) (by go_simp))
    clear hK;refine tlY 6 16 rfl rfl ?_;refine tlY 7 17 rfl rfl ?_;refine tlN 8 18 rfl rfl ?_;refine tlN 9 19 rfl rfl ?_;refine tlN 10 20 rfl rfl ?_;refine tlN 11 21 rfl rfl ?_;refine tlN 12 22 rfl rfl ?_;refine rdH 13 rfl fun K hK=>?_;go_simp;refine hK.out _ _ ?_ (fun hHeld13=>?_)
    ·refine⟨?_,?_,?_⟩<;>first|(go_simp;done)|(exact cL8 (by assumption) (by go_simp))
    clear hK;refine tlN 14 24 rfl rfl ?_;refine tlY 15 25 rfl rfl ?_;refine tlY 16 26 rfl rfl ?_;refine tlN 17 27 rfl rfl ?_;refine tlN 18 28 rfl rfl ?_;refine tlN 19 29 rfl rfl ?_;refine tlN 20 30 rfl rfl ?_;refine tlN 21 31 rfl rfl ?_;refine tlN 22 32 rfl rfl ?_;refine tlN 23 33 rfl rfl ?_;refine tlN 24 34 rfl rfl ?_;refine tlN 25 35 rfl rfl ?_;refine tlN 26 36 rfl rfl ?_;refine tlN 27 37 rfl rfl ?_;refine tlN 28 38 rfl rfl ?_;refine tlN 29 39 rfl rfl ?_;refine tlN 30 40 rfl rfl ?_;refine tlN 31 41 rfl rfl ?_;refine tlN 32 42 rfl rfl ?_;refine tlY 33 43 rfl rfl ?_;refine wpAnyH_done (by kernel_rfl) ?_ _;go_wp2;go_returns;refine⟨rB8 ?_,bela⟩;unfold okDb;rw[HE.out,HS.out,hf];simp
   by_cases hpl:okPlain x.W x.cs=true;rotate_left
   ·have hf:okPlain x.W x.cs=false:=by simpa using hpl
    clear ha hw hL hx;subst hq;go_wp2_with fail;refine wp_region_held_drew (S:=(fun w'=>w'.cell? ⟨b,o+k*3,none⟩=some (.string x.s)∧w'.cell? ⟨b,o+k*3+1,none⟩=some (.int .i64 x.W)∧w'.cell? ⟨b,o+k*3+2,none⟩=some (.slice ur lr cr))) (by kernel_rfl) ?_ (fun hHeld=>?_)
    ·refine⟨?_,?_,?_⟩<;>first|(go_simp;done)|(exact cL8 (by assumption) (by go_simp))
    refine tlY 0 10 rfl rfl ?_;refine tlY 1 11 rfl rfl ?_;refine tlY 2 12 rfl rfl ?_;refine tlY 3 13 rfl rfl ?_;refine tlY 4 14 rfl rfl ?_;refine rdH 5 rfl fun K hK=>?_;go_simp;go_at_call 38;refine(specName_any x.s _ hxs).mono ?_;rintro e w1 ⟨rfl,rfl⟩;try go_wp2_with fail
    refine hK.out _ _ ?_ (fun hHeld5=>?_)
    ·refine⟨?_,?_,?_⟩<;>first|(go_simp;done)|(exact cL8 (by assumption) (by go_simp))
    clear hK;refine tlY 6 16 rfl rfl ?_;refine tlY 7 17 rfl rfl ?_;refine tlY 8 18 rfl rfl ?_;refine tlY 9 19 rfl rfl ?_;refine tlY 10 20 rfl rfl ?_;refine tlY 11 21 rfl rfl ?_;refine tlY 12 22 rfl rfl ?_;refine rdH 13 rfl fun K hK=>?_;go_simp;go_at_call 63;refine cM8 (specPlain_any x.W (.slice ur lr cr) x.cs _ hxw (hR.below bela)) ?_;rintro e w2 ⟨rfl,hb2⟩;have hz2:=hb2.size;(try simp at hz2);try go_wp2_with fail
    refine hK.out _ _ ?_ (fun hHeld13=>?_)
    ·refine⟨?_,?_,?_⟩<;>first|(go_simp;done)|(exact cL8 (by assumption) (by go_simp))
    clear hK;refine tlY 14 24 rfl rfl ?_;refine tlY 15 25 rfl rfl ?_;refine tlY 16 26 rfl rfl ?_;refine tlN 17 27 rfl rfl ?_;refine tlN 18 28 rfl rfl ?_;refine tlN 19 29 rfl rfl ?_;refine tlN 20 30 rfl rfl ?_;refine tlN 21 31 rfl rfl ?_;refine tlN 22 32 rfl rfl ?_;refine tlN 23 33 rfl rfl ?_;refine tlN 24 34 rfl rfl ?_;refine tlN 25 35 rfl rfl ?_;refine tlN 26 36 rfl rfl ?_;refine tlN 27 37 rfl rfl ?_;refine tlN 28 38 rfl rfl ?_;refine tlN 29 39 rfl rfl ?_;refine tlN 30 40 rfl rfl ?_;refine tlN 31 41 rfl rfl ?_;refine tlN 32 42 rfl rfl ?_;refine tlY 33 43 rfl rfl ?_;refine wpAnyH_done (by kernel_rfl) ?_ _;go_wp2;go_returns;refine⟨rB8 ?_,bela⟩;unfold okDb;rw[HE.out,HS.out,hf];simp
   rcases Nat.eq_zero_or_pos k with hk0|hk0
   ·subst hk0;obtain rfl:q=0:=by simpa using hq
    rw[Nat.zero_mul,Nat.add_zero]at c0 c1 c2;clear ha hw hL hx hq;go_wp2_with fail;refine wp_region_held_drew (S:=(fun w'=>w'.cell? ⟨b,o,none⟩=some (.string x.s)∧w'.cell? ⟨b,o+1,none⟩=some (.int .i64 x.W)∧w'.cell? ⟨b,o+2,none⟩=some (.slice ur lr cr))) (by kernel_rfl) ?_ (fun hHeld=>?_)
    ·refine⟨?_,?_,?_⟩<;>first|(go_simp;done)|(exact cL8 (by assumption) (by go_simp))
    refine tlY 0 10 rfl rfl ?_;refine tlY 1 11 rfl rfl ?_;refine tlY 2 12 rfl rfl ?_;refine tlY 3 13 rfl rfl ?_;refine tlY 4 14 rfl rfl ?_;refine rdH 5 rfl fun K hK=>?_;go_simp;go_at_call 38;refine(specName_any x.s _ hxs).mono ?_;rintro e w1 ⟨rfl,rfl⟩;try go_wp2_with fail
    refine hK.out _ _ ?_ (fun hHeld5=>?_)
    ·refine⟨?_,?_,?_⟩<;>first|(go_simp;done)|(exact cL8 (by assumption) (by go_simp))
    clear hK;refine tlY 6 16 rfl rfl ?_;refine tlY 7 17 rfl rfl ?_;refine tlY 8 18 rfl rfl ?_;refine tlY 9 19 rfl rfl ?_;refine tlY 10 20 rfl rfl ?_;refine tlY 11 21 rfl rfl ?_;refine tlY 12 22 rfl rfl ?_;refine rdH 13 rfl fun K hK=>?_;go_simp;go_at_call 63;refine cM8 (specPlain_any x.W (.slice ur lr cr) x.cs _ hxw (hR.below bela)) ?_;rintro e w2 ⟨rfl,hb2⟩;have hz2:=hb2.size;(try simp at hz2);try go_wp2_with fail
    refine hK.out _ _ ?_ (fun hHeld13=>?_)
    ·refine⟨?_,?_,?_⟩<;>first|(go_simp;done)|(exact cL8 (by assumption) (by go_simp))
    clear hK;refine tlY 14 24 rfl rfl ?_;refine tlY 15 25 rfl rfl ?_;refine tlY 16 26 rfl rfl ?_;refine tlY 17 27 rfl rfl ?_;refine tlY 18 28 rfl rfl ?_;refine tlY 19 29 rfl rfl ?_;refine tlN 20 30 rfl rfl ?_;refine tlN 21 31 rfl rfl ?_;refine tlN 22 32 rfl rfl ?_;refine tlN 23 33 rfl rfl ?_;refine tlN 24 34 rfl rfl ?_;refine tlN 25 35 rfl rfl ?_;refine tlN 26 36 rfl rfl ?_;refine tlN 27 37 rfl rfl ?_;refine tlN 28 38 rfl rfl ?_;refine tlN 29 39 rfl rfl ?_;refine tlN 30 40 rfl rfl ?_;refine tlN 31 41 rfl rfl ?_;refine tlY 32 42 rfl rfl ?_;refine tlY 33 43 rfl rfl ?_;refine wpAnyH_done (by kernel_rfl) ?_ _;go_wp2
    go_roundw
    case rel=>
     refine⟨1,1,hlt,rfl,by simp,bela,?_⟩;rw[HE.out,HS.out,hnm,hpl,prevR_zero];simp[okPrevR]
    case measure=>simp[intOf];omega
   ·obtain⟨j,rfl⟩:∃j,k=j+1:=⟨k -1,by omega⟩;obtain rfl:q=(j:Int)+1:=by omega
    obtain⟨y,t,hy,d0,d1,d2',hT,_⟩:=hL.at hblt hb (show j<rs.length by omega);have HP:Hid (prevR rs (j+1)=some y):=prevR_succ hy;have HQ:Hid (okPrevR (prevR rs (j+1)) x=Op.bytesLess y.s.toList x.s.toList):=by rw[HP.out];rfl
    have hw1:IntKind.i64.wrap (j:Int)=j:=by rw[IntKind.wrap_i64];omega
    have hw2:IntKind.i64.wrap ((j:Int)+1 -1)=j:=by rw[IntKind.wrap_i64];omega
    have hi0:(0:Int)≤j:=by omega
    have hi1:(j:Int)<rs.length:=by omega
    have hi2:(0:Int)<(j:Int)+1:=by omega
    clear ha hw hL hx hy hq d1 d2' hT;go_wp2_with fail;refine wp_region_held_drew (S:=(fun w'=>w'.cell? ⟨b,o+(j+1)*3,none⟩=some (.string x.s)∧w'.cell? ⟨b,o+(j+1)*3+1,none⟩=some (.int .i64 x.W)∧w'.cell? ⟨b,o+(j+1)*3+2,none⟩=some (.slice ur lr cr)∧w'.cell? ⟨b,o+j*3,none⟩=some (.string y.s))) (by kernel_rfl) ?_ (fun hHeld=>?_)
    ·refine⟨?_,?_,?_,?_⟩<;>first|(go_simp;done)|(exact cL8 (by assumption) (by go_simp))
    refine tlY 0 10 rfl rfl ?_;refine tlY 1 11 rfl rfl ?_;refine tlY 2 12 rfl rfl ?_;refine tlY 3 13 rfl rfl ?_;refine tlY 4 14 rfl rfl ?_;refine rdH 5 rfl fun K hK=>?_;go_simp;go_at_call 38;refine(specName_any x.s _ hxs).mono ?_;rintro e w1 ⟨rfl,rfl⟩;try go_wp2_with fail
    refine hK.out _ _ ?_ (fun hHeld5=>?_)
    ·refine⟨?_,?_,?_,?_⟩<;>first|(go_simp;done)|(exact cL8 (by assumption) (by go_simp))
    clear hK;refine tlY 6 16 rfl rfl ?_;refine tlY 7 17 rfl rfl ?_;refine tlY 8 18 rfl rfl ?_;refine tlY 9 19 rfl rfl ?_;refine tlY 10 20 rfl rfl ?_;refine tlY 11 21 rfl rfl ?_;refine tlY 12 22 rfl rfl ?_;refine rdH 13 rfl fun K hK=>?_;go_simp;go_at_call 63;refine cM8 (specPlain_any x.W (.slice ur lr cr) x.cs _ hxw (hR.below bela)) ?_;rintro e w2 ⟨rfl,hb2⟩;have hz2:=hb2.size;(try simp at hz2);try go_wp2_with fail
    refine hK.out _ _ ?_ (fun hHeld13=>?_)
    ·refine⟨?_,?_,?_,?_⟩<;>first|(go_simp;done)|(exact cL8 (by assumption) (by go_simp))
    clear hK;refine tlY 14 24 rfl rfl ?_;refine tlY 15 25 rfl rfl ?_;refine tlY 16 26 rfl rfl ?_;refine tlY 17 27 rfl rfl ?_;refine tlY 18 28 rfl rfl ?_;refine tlY 19 29 rfl rfl ?_;refine tlY 20 30 rfl rfl ?_;refine tlY 21 31 rfl rfl ?_;refine tlY 22 32 rfl rfl ?_;refine tlY 23 33 rfl rfl ?_;refine tlY 24 34 rfl rfl ?_;refine tlY 25 35 rfl rfl ?_;refine tlY 26 36 rfl rfl ?_;refine tlY 27 37 rfl rfl ?_;refine tlY 28 38 rfl rfl ?_;refine tlY 29 39 rfl rfl ?_;refine tlY 30 40 rfl rfl ?_;refine tlY 31 41 rfl rfl ?_;refine tlY 32 42 rfl rfl ?_;refine tlY 33 43 rfl rfl ?_;refine wpAnyH_done (by kernel_rfl) ?_ _;go_wp2
    ·have hcf:Op.bytesLess y.s.toList x.s.toList=false:=by
      have h9:Op.bytesLess x.s.toList y.s.toList=true∨(x.s.toList==y.s.toList)=true:=by assumption
      rcases h9 with h9|h9
      ·exact bless_asymm h9
      ·rw[beq_iff_eq]at h9;rw[h9];exact bless_irrefl _
     go_returns;refine⟨rB8 ?_,bela⟩;unfold okDb;rw[HE.out,HS.out,HQ.out,hcf];simp
    ·have hcmp:Op.bytesLess y.s.toList x.s.toList=true:=by
      have h9:Op.bytesLess x.s.toList y.s.toList=false∧(x.s.toList==y.s.toList)=false:=by assumption
      exact bless_total h9.1 (by simpa using h9.2)
     refine⟨⟨j+1+1,(j:Int)+1+1,hlt,by omega,rfl,bela,?_⟩,by simp[intOf];omega⟩;rw[HE.out,HS.out,HQ.out,hnm,hpl,hcmp];simp
  ·have HN:Hid (okRs none rs=true):=by rw[HE.out,List.drop_eq_nil_of_le (by omega)];rfl
   clear ha hw;go_wp2;go_returns;refine⟨rB8 ?_,hb⟩;unfold okDb;rw[HN.out,Bool.and_true]
   first|rfl|(rw[Bool.eq_iff_iff];simp;omega)|(simp;omega)
end
end
end Go.Proofs.YtjhhmnjpojnoiaaGreatDoor
