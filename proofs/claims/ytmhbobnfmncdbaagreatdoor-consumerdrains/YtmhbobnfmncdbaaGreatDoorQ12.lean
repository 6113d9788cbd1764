/- A part. -/
import Derived.Test.YtmhbobnfmncdbaaGreatDoorQ9
namespace Go.Proofs.YtmhbobnfmncdbaaGreatDoor
open Go.RowKit Go.Proofs.Tryz
theorem Nq {a b:Int}:(mP a b==0)=((a==0)&&(b==0)):=by
 unfold mP;rw[Bool.eq_iff_iff];split<;>simp_all
theorem vV (f s:ByteArray)(w:World)(hf:f.size<=140737488355328)(hs:s.size<=140737488355328) :
 Calls prog 30 #[.func (Fn.func 31) #[] #[],.string f,.string s] w λe w'=>e=.returned (.bool (aF f s))/\Below w.heap.size w w':=by
 cases hp:(mP (aA true f) (aA false s)==0)
 ·have R:aF f s=false:=by unfold aF;rw[<-Nq,hp];rfl
  have HR:=aj R;clear R;go_enter func30,ntmps30;go_wp2_with (go_at_call 31;refine(qg f s _ hf hs).mono ?_;rintro e w1 ⟨rfl,hb⟩);go_ret;exact⟨fZ (ah HR),hb⟩
 ·go_enter func30,ntmps30;go_wp2_with (go_at_call 31;refine(qg f s _ hf hs).mono ?_;rintro e w1 ⟨rfl,hb⟩);go_ret;exact⟨rfl,hb⟩
theorem Yw {f s:ByteArray}{a:Bool}(h:aF f s=a)(w:World)(hf:f.size<=140737488355328)(hs:s.size<=140737488355328) :
 Calls prog 30 #[.func (Fn.func 31) #[] #[],.string f,.string s] w λe w'=>e=.returned (.bool a)/\Below w.heap.size w w':=by
 subst h;exact vV f s w hf hs
