/- A part. -/
import Derived.Test.YtophdoapcdjnjaaGreatDoorQ4
import Derived.Deep.DeepCutAuto
set_option maxRecDepth 100000
set_option maxHeartbeats 8000000
namespace Go.Proofs.YtophdoapcdjnjaaGreatDoor
open Go.RowKit Go.Proofs.Tryz
theorem qp (t:Tk.bM)(a1 a2:Option Addr)(c1 c2:Nat)(w:World)(h1:Dk.jm w a1 t.bo)(h2:Dk.jm w a2 t.bo)(hl:t.bo.length<=17592186043904) :
 Calls prog 22 #[qZ t a1 c1,qZ t a2 c2] w λe w'=>e=.returned (.bool true)/\Below w.heap.size w w':=by
 obtain⟨W1,hW1⟩:∃W,W=w.alloc (vC t a1 c1):=⟨_,rfl⟩;have k1:Below w.heap.size w W1:=by rw[hW1];exact(Below.refl _ _).alloc (Nat.le_refl _) _
 have s1:W1.heap.size=w.heap.size+1:=by rw[hW1];simp
 have p1:TB W1 w.heap.size t a1 c1:=by rw[hW1];exact TB.new w t a1 c1
 obtain⟨W2,hW2⟩:∃W,W=W1.alloc (vC t a2 c2):=⟨_,rfl⟩;have k2:Below W1.heap.size W1 W2:=by rw[hW2];exact(Below.refl _ _).alloc (Nat.le_refl _) _
 have p2:TB W2 W1.heap.size t a2 c2:=by rw[hW2];exact TB.new W1 t a2 c2
 have p1':=p1.next k2;rw[s1] at p2;obtain⟨_,x0,x1,x2,x3,x4,x5,x6,x7,x8,x9⟩:=p1';obtain⟨_,y0,y1,y2,y3,y4,y5,y6,y7,y8,y9⟩:=p2;have q1:=bY (bY h1 k1) k2;have q2:=bY (bY h2 k1) k2;have PE:=aj (Dk.wZ a1 a2 c1 c2 t.bo W2 q1 q2 hl);have HB:=aj (aA k1 k2);obtain⟨b1,hb1⟩:∃b,b=w.heap.size:=⟨_,rfl⟩;obtain⟨b2,hb2⟩:∃b,b=w.heap.size+1:=⟨_,rfl⟩;rw[hW1] at hW2;rw[<-hb1] at x0 x1 x2 x3 x4 x5 x6 x7 x8 x9;rw[<-hb2] at y0 y1 y2 y3 y4 y5 y6 y7 y8 y9;clear k1 k2 s1 p1 h1 h2 q1 q2 hW1;go_enter func22,ntmps22;go_upto_region 1 with fail
 rw[<-hW2,<-hb2,<-hb1];clear hW2 hb1 hb2;go_wp2_with fail;refine(ah PE).mono ?_;rintro e w4 ⟨rfl,q4,rfl⟩;clear PE;go_wp2_with fail;go_ret;exact⟨rfl,below_drewN (ah HB) _⟩
