/- A part of the proof. -/
import Derived.Test.YtidekgipblnpkaaGreatDoorQ54
set_option maxRecDepth 100000
set_option maxHeartbeats 8000000
namespace Go.Proofs.YtidekgipblnpkaaGreatDoor.Dk
open Go.Joins Go.Deep Go.WideShapes Go.ChangeShapes Go.ChangeAt Go.RowKit Go.Proofs.Tryz
theorem Gs {H:Type}{enc:TypeId×Value->H}{W:World}{base:Nat}{v:Value}{d:DataW H}{pl:List MemPlace}(hv:Value.okWide prog W .any base 48 v)(h:DataW.Trod enc prog W 0 (λ_=>true) true 48 v d pl)(hw:∀x∈DataW.weights prog 48 d,x<=reachBytes):∃x:Po,v=yw x/\dL x:=by
 obtain⟨u0,u1,u2,u3,u4,u5,y0,y1,y2,y3,y4,y5,m,rfl,hd,_,g0,g1,g2,g3,g4,g5⟩:=aap underlying48 (by kernel_rfl) aeV hv h;obtain⟨s0,e0,q0,_⟩:=DataW.trod_string underlying9 g0;obtain⟨s1,e1,q1,_⟩:=DataW.trod_string underlying9 g1;obtain⟨s2,e2,q2,_⟩:=DataW.trod_string underlying9 g2;obtain⟨s3,e3,q3,_⟩:=DataW.trod_string underlying9 g3;obtain⟨x4,e4,q4,_⟩:=DataW.trod_int underlying3 g4;obtain⟨x5,e5,q5,_⟩:=DataW.trod_int underlying3 g5;simp only[List.cons.injEq,and_true] at e0 e1 e2 e3 e4 e5;subst e0 e1 e2 e3 e4 e5;have hall:∀x,x∈[s0.data.toList.length,s1.data.toList.length,s2.data.toList.length,s3.data.toList.length]->x<=140737488355328:=λx hx=>by
  have hle:=hw x (by
   rw[hd,q0,q1,q2,q3];simp[DataW.weights,DataW.weightsEach,underlying48];simp at hx;omega)
  unfold reachBytes at hle;omega
 have el:∀y:ByteArray,y.data.toList.length=y.size:=λy=>by simp
 simp only[el] at hall;exact⟨⟨s0,s1,s2,s3,x4,x5⟩,rfl,hall _ (by simp),hall _ (by simp),hall _ (by simp),hall _ (by simp)⟩
end Go.Proofs.YtidekgipblnpkaaGreatDoor.Dk
