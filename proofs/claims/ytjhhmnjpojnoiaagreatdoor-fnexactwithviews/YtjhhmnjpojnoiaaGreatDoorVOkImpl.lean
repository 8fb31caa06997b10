/- Own text. The contracts of the program's ValueOk: it answers okB, and writes nothing that was there. -/
import Derived.Test.YtjhhmnjpojnoiaaGreatDoorGLWithViews1
import Derived.Test.YtjhhmnjpojnoiaaGreatDoorGLWithViews8
set_option maxHeartbeats 16000000
set_option maxRecDepth 100000
set_option linter.unusedVariables false
set_option linter.unusedSimpArgs false
namespace Go.Proofs.YtjhhmnjpojnoiaaGreatDoor
section
section
open Go.RowKit
attribute [local go_sem] ta_nullForm_nullForm ta_nullForm_intForm ta_nullForm_boolForm ta_nullForm_textForm ta_intForm_nullForm ta_intForm_intForm ta_intForm_boolForm ta_intForm_textForm ta_boolForm_nullForm ta_boolForm_intForm ta_boolForm_boolForm ta_boolForm_textForm ta_textForm_nullForm ta_textForm_intForm ta_textForm_boolForm ta_textForm_textForm ta_nil_nullForm ta_nil_intForm ta_nil_boolForm ta_nil_textForm
theorem implValueOk_0 (n:Int)(s:ByteArray)(w:World):Calls Tryz.prog 131 #[(.agg #[.int .i64 0,.int .i64 n,.string s])] w fun e w'=>e=.returned (.bool (okB 0 n s))∧Below w.heap.size w w':=by
 have hq:=eqV;go_enter Tryz.func131,Tryz.ntmps131;go_wp2_with(first|(go_at_call 144;refine(formOf_0 _ _ _).mono ?_;rintro e w1 ⟨rfl,rfl⟩))
 first|go_region_calls|fail
 all_goals(go_wp2;go_returns;refine⟨rB8 ?_,?_⟩)
 all_goals first|(go_grown;done)|((repeat (first|exact Below.refl _ _|refine Below.drew ?_|refine Below.alloc ?_ (by first|(simp;done)|(simp;omega)|omega) _|refine bstep (by assumption) (by first|(simp;done)|(simp;omega)|omega) ?_));done)|(clear hq;rw[okB_0];simp[beq0])
theorem implValueOk_1 (n:Int)(s:ByteArray)(w:World):Calls Tryz.prog 131 #[(.agg #[.int .i64 1,.int .i64 n,.string s])] w fun e w'=>e=.returned (.bool (okB 1 n s))∧Below w.heap.size w w':=by
 have hq:=eqV;go_enter Tryz.func131,Tryz.ntmps131;go_wp2_with(first|(go_at_call 144;refine(formOf_1 _ _ _).mono ?_;rintro e w1 ⟨rfl,rfl⟩))
 first|go_region_calls|fail
 all_goals(go_wp2;go_returns;refine⟨rB8 ?_,?_⟩)
 all_goals first|(go_grown;done)|((repeat (first|exact Below.refl _ _|refine Below.drew ?_|refine Below.alloc ?_ (by first|(simp;done)|(simp;omega)|omega) _|refine bstep (by assumption) (by first|(simp;done)|(simp;omega)|omega) ?_));done)|(clear hq;rw[okB_1];simp)
theorem implValueOk_2 (n:Int)(s:ByteArray)(w:World):Calls Tryz.prog 131 #[(.agg #[.int .i64 2,.int .i64 n,.string s])] w fun e w'=>e=.returned (.bool (okB 2 n s))∧Below w.heap.size w w':=by
 have hq:=eqV;by_cases hc:n=0∨n=1
 ·go_enter Tryz.func131,Tryz.ntmps131;go_wp2_with(first|(go_at_call 144;refine(formOf_2 _ _ _).mono ?_;rintro e w1 ⟨rfl,rfl⟩))
  first|go_region_held3 (fun w'=>w'.cell? ⟨w.heap.size,0,none⟩=some (.int .i64 2)∧w'.cell? ⟨w.heap.size,1,none⟩=some (.int .i64 n)∧w'.cell? ⟨w.heap.size,2,none⟩=some (.string s)) (refine⟨?_,?_,?_⟩<;>first|(go_simp;done)|(exact cL8 (by assumption) (by go_simp))) (first|(go_at_call 208;refine(inRange_2 _ _ hc).mono ?_;rintro e w1 ⟨rfl,hb1⟩;have hz1:=hb1.size;(try simp at hz1);have hy1:w.heap.size<w1.heap.size:=(by omega))|(go_at_call 145;refine(valueOf_2 _ _).mono ?_;rintro e w2 ⟨rfl,hb2⟩;have hz2:=hb2.size;(try simp at hz2);have hy2:w.heap.size<w2.heap.size:=(by omega)))|fail
  all_goals(go_wp2;go_returns;refine⟨rB8 ?_,?_⟩)
  all_goals first|(go_grown;done)|((repeat (first|exact Below.refl _ _|refine Below.drew ?_|refine Below.alloc ?_ (by first|(simp;done)|(simp;omega)|omega) _|refine bstep (by assumption) (by first|(simp;done)|(simp;omega)|omega) ?_));done)|(clear hq;rw[okB_2];rcases hc with rfl|rfl<;>simp)
 have hx0:(n==0)=false:=by simp;omega
 have hx1:(n==1)=false:=by simp;omega
 go_enter Tryz.func131,Tryz.ntmps131;go_wp2_with(first|(go_at_call 144;refine(formOf_2 _ _ _).mono ?_;rintro e w1 ⟨rfl,rfl⟩))
 first|go_region_with (first|(go_at_call 208;refine(inRange_2x _ _ hx0 hx1).mono ?_;rintro e w1 ⟨rfl,hb1⟩;have hz1:=hb1.size;(try simp at hz1);have hy1:w.heap.size<w1.heap.size:=(by omega)))|fail
 all_goals(go_wp2;go_returns;refine⟨rB8 ?_,?_⟩)
 all_goals first|(go_grown;done)|((repeat (first|exact Below.refl _ _|refine Below.drew ?_|refine Below.alloc ?_ (by first|(simp;done)|(simp;omega)|omega) _|refine bstep (by assumption) (by first|(simp;done)|(simp;omega)|omega) ?_));done)|(clear hq;rw[okB_2];simp[hx0,hx1])
theorem implValueOk_3 (n:Int)(s:ByteArray)(w:World)(hs:s.size≤maxLen):Calls Tryz.prog 131 #[(.agg #[.int .i64 3,.int .i64 n,.string s])] w fun e w'=>e=.returned (.bool (okB 3 n s))∧Below w.heap.size w w':=by
 have hq:=eqV;by_cases hc:(s.size:Int)≤100
 ·go_enter Tryz.func131,Tryz.ntmps131;go_wp2_with(first|(go_at_call 144;refine(formOf_3 _ _ _).mono ?_;rintro e w1 ⟨rfl,rfl⟩))
  first|go_region_held3 (fun w'=>w'.cell? ⟨w.heap.size,0,none⟩=some (.int .i64 3)∧w'.cell? ⟨w.heap.size,1,none⟩=some (.int .i64 n)∧w'.cell? ⟨w.heap.size,2,none⟩=some (.string s)) (refine⟨?_,?_,?_⟩<;>first|(go_simp;done)|(exact cL8 (by assumption) (by go_simp))) (first|(go_at_call 209;refine(inRange_3 _ _ hs hc).mono ?_;rintro e w1 ⟨rfl,hb1⟩;have hz1:=hb1.size;(try simp at hz1);have hy1:w.heap.size<w1.heap.size:=(by omega))|(go_at_call 145;refine(valueOf_3 _ _).mono ?_;rintro e w2 ⟨rfl,hb2⟩;have hz2:=hb2.size;(try simp at hz2);have hy2:w.heap.size<w2.heap.size:=(by omega)))|fail
  all_goals(go_wp2;go_returns;refine⟨rB8 ?_,?_⟩)
  all_goals first|(go_grown;done)|((repeat (first|exact Below.refl _ _|refine Below.drew ?_|refine Below.alloc ?_ (by first|(simp;done)|(simp;omega)|omega) _|refine bstep (by assumption) (by first|(simp;done)|(simp;omega)|omega) ?_));done)|(clear hq;rw[okB_3];have hc':s.size≤100:=(by omega);simp[beq0,hc'])
 ·go_enter Tryz.func131,Tryz.ntmps131;go_wp2_with(first|(go_at_call 144;refine(formOf_3 _ _ _).mono ?_;rintro e w1 ⟨rfl,rfl⟩))
  first|go_region_with (first|(go_at_call 209;refine(inRange_3x _ _ hs (by omega)).mono ?_;rintro e w1 ⟨rfl,hb1⟩;have hz1:=hb1.size;(try simp at hz1);have hy1:w.heap.size<w1.heap.size:=(by omega)))|fail
  all_goals(go_wp2;go_returns;refine⟨rB8 ?_,?_⟩)
  all_goals first|(go_grown;done)|((repeat (first|exact Below.refl _ _|refine Below.drew ?_|refine Below.alloc ?_ (by first|(simp;done)|(simp;omega)|omega) _|refine bstep (by assumption) (by first|(simp;done)|(simp;omega)|omega) ?_));done)|(clear hq;rw[okB_3];have hc':¬s.size≤100:=(by omega);simp[hc'])
theorem implValueOk_x (k:Int)(n:Int)(s:ByteArray)(w:World)(h0:(k==0)=false)(h1:(k==1)=false)(h2:(k==2)=false)(h3:(k==3)=false):Calls Tryz.prog 131 #[(.agg #[.int .i64 k,.int .i64 n,.string s])] w fun e w'=>e=.returned (.bool (okB k n s))∧Below w.heap.size w w':=by
 have hq:=eqV;go_enter Tryz.func131,Tryz.ntmps131;go_wp2_with(first|(go_at_call 144;refine(formOf_x _ _ _ _ h0 h1 h2 h3).mono ?_;rintro e w1 ⟨rfl,rfl⟩))
 first|go_region_calls|fail
 all_goals(go_wp2;go_returns;refine⟨rB8 ?_,?_⟩)
 all_goals first|(go_grown;done)|((repeat (first|exact Below.refl _ _|refine Below.drew ?_|refine Below.alloc ?_ (by first|(simp;done)|(simp;omega)|omega) _|refine bstep (by assumption) (by first|(simp;done)|(simp;omega)|omega) ?_));done)|(clear hq;rw[okB_x k n s (by simpa using h0) (by simpa using h1) (by simpa using h2) (by simpa using h3)])
theorem implValueOk_any (k n:Int)(s:ByteArray)(w:World)(hs:s.size≤maxLen):Calls Tryz.prog 131 #[(.agg #[.int .i64 k,.int .i64 n,.string s])] w fun e w'=>e=.returned (.bool (okB k n s))∧Below w.heap.size w w':=by
 by_cases h0:k=0
 ·subst h0;exact implValueOk_0 n s w
 by_cases h1:k=1
 ·subst h1;exact implValueOk_1 n s w
 by_cases h2:k=2
 ·subst h2;exact implValueOk_2 n s w
 by_cases h3:k=3
 ·subst h3;exact implValueOk_3 n s w hs
 exact implValueOk_x k n s w (by simp[h0]) (by simp[h1]) (by simp[h2]) (by simp[h3])
end
end
end Go.Proofs.YtjhhmnjpojnoiaaGreatDoor
