/- A part. -/
import Derived.Test.YtophdoapcdjnjaaGreatDoorQ18
import Derived.Test.YtophdoapcdjnjaaGreatDoorQ30
import Derived.Deep.DeepCutAuto
set_option maxRecDepth 100000
set_option maxHeartbeats 8000000
namespace Go.Proofs.YtophdoapcdjnjaaGreatDoor
open Go.RowKit Go.Proofs.Tryz
namespace Dk
theorem Ny:oq P0:=⟨by decide,λk hk=>by
 have:k=0:=by simp[P0] at hk;omega
 subst this;decide,by decide,rfl⟩
section
variable {SH:World->Nat->Nat->(Nat->Prop)->aX->Prop}
theorem IE (H:dX SH)(w:World)(hG:dZ w) :
 Calls prog 15 #[] w λe w'=>∃p a c,e=.returned (.pointer (some ⟨p,0,none⟩))/\QM w' p P0 a c/\Below w.heap.size w w':=by
 have b1:Below w.heap.size w (w.alloc (.cells #[.string ⟨#[97,46,62]⟩] 9)):=(Below.refl _ _).alloc (Nat.le_refl _) _;have hsl:jg (w.alloc (.cells #[.string ⟨#[97,46,62]⟩] 9)) (some ⟨w.heap.size,0,none⟩) P0.f:=λk hk=>by
  have:k=0:=by simp[P0] at hk;omega
  subst this;exact⟨w.heap.size,0,rfl,by simp,by simp[P0,tk]⟩
 have PN:=aj (Aq H (w.alloc (.cells #[.string ⟨#[97,46,62]⟩] 9)) P0 (some ⟨w.heap.size,0,none⟩) 1 1000 100 Ny hsl (by decide) (hG.next b1) Yi (by decide) (by decide));have HB:=aj b1;clear hsl b1;go_enter func15,ntmps15;go_wp2_with fail;refine(ah PN).mono ?_;rintro e w2 ⟨p,a,c,rfl,⟨_,h2,_⟩,b2⟩;have HR:=aj (And.intro h2 (aA (ah HB) b2));clear h2 b2 PN HB;go_wp2_with fail;go_ret;exact⟨p,a,c,rfl,ah HR⟩
theorem QM.next {w w':World}{x:Nat}{P:Pn.dN}{a:Option Addr}{c:Nat}(h:QM w x P a c)(hb:Below w.heap.size w w'):QM w' x P a c:=⟨h.plan.next hb,h.row.next hb,h.small⟩
theorem QM.keep {A:Nat->Prop}{w w':World}{x:Nat}{P:Pn.dN}{a:Option Addr}{c:Nat}(h:QM w x P a c)(hb:aF A w w')(hx:¬A x)(ha:∀z,a=some z->¬A z.block):QM w' x P a c:=by
 refine⟨?_,λk hk=>?_,h.small⟩
 ·obtain⟨l,c0,c1,c2,c3,c4,c5,c6,c7,c8,c9⟩:=h.plan;have e:∀i,w'.cell? ⟨x,i,none⟩=w.cell? ⟨x,i,none⟩:=λi=>hb.cell (p:=⟨x,i,none⟩) l hx
  exact⟨Nat.lt_of_lt_of_le l hb.size,(e 0).trans c0,(e 1).trans c1,(e 2).trans c2,(e 3).trans c3,(e 4).trans c4,(e 5).trans c5,(e 6).trans c6,(e 7).trans c7,(e 8).trans c8,(e 9).trans c9⟩
 ·obtain⟨b,o,e,l,c⟩:=h.row k hk;exact⟨b,o,e,Nat.lt_of_lt_of_le l hb.size,(hb.cell (p:=⟨b,o+k,none⟩) l (ha ⟨b,o,none⟩ e)).trans c⟩
end
structure WM (w0 w:World)(P:Pn.dN)(t:Tk.bM)(a a':Option Addr)(c c':Nat)(b2 b3 b5 b6:Nat)(a5 a6:Option Addr)(c5 c6:Nat):Prop where
 pp:Dq w b2 P a c
 tt:TB w b3 t a' c'
 p5:Dq w b5 P a5 c5
 t6:TB w b6 t a6 c6
 sp:jg w a P.f
 st:jm w a' t.bo
 ne:b2≠b5/\b2≠b6/\b3≠b5/\b3≠b6/\b5≠b6
 lo:w0.heap.size<=b2/\w0.heap.size<=b3/\w0.heap.size<=b5/\w0.heap.size<=b6
 f5:w.frozen? ⟨b5,1,none⟩=false
 f6:w.frozen? ⟨b6,6,none⟩=false
 bl:Below w0.heap.size w0 w
