/- A part. -/
import Derived.Test.YtophdoapcdjnjaaGreatDoorQ7
import Derived.Test.YtophdoapcdjnjaaGreatDoorQ11
set_option maxRecDepth 100000
set_option maxHeartbeats 8000000
namespace Go.Proofs.YtophdoapcdjnjaaGreatDoor
open Go.RowKit Go.Proofs.Tryz
namespace Dk
theorem FD (w:World)(q:Nat)(k1:w.cell? ⟨q,1,none⟩=some (.map none)) :
 Calls prog 126 #[.pointer (some ⟨q,0,none⟩)] w λe w'=>e=.returned (.slice none 0 0)/\Below w.heap.size w w':=by
 have PL:=aj (KR k1);clear k1;go_enter func126,ntmps126;go_wp2_with fail;refine(ah PL).mono ?_;rintro e w1 ⟨rfl,b1⟩;have B1:=aj b1;clear PL b1;go_wp2_with fail;go_loopw [3,15] (λtv iv wr=>tv=.slice none 0 0/\iv=.int .i64 0/\wr=w1) (λ_ _ _=>0)
 case atStart=>exact⟨rfl,rfl,rfl⟩
 case round =>
  obtain⟨rfl,rfl,rfl⟩:=hrel;go_wp2_with fail;go_ret;exact⟨rfl,ah B1⟩
theorem MQ (w:World)(q:Nat)(size:Int)(hz:1<=size/\size<=4096)(k1:w.cell? ⟨q,1,none⟩=some (.map none))(hq:q<w.heap.size) :
 Calls prog 101 #[.pointer (some ⟨q,0,none⟩),.int .i64 size] w λe w'=>∃g,e=.returned (.tuple #[.pointer (some ⟨g,0,none⟩),.slice none 0 0,.int .i64 0])/\Below w.heap.size w w':=by
 have z1:decide (size<1)=false:=decide_eq_false (by omega);have z2:decide ((4096:Int)<size)=false:=decide_eq_false (by omega);have PR:Hid (∀o,Calls prog 126 #[.pointer (some ⟨q,0,none⟩)] (w.alloc o) λe w'=>e=.returned (.slice none 0 0)/\Below w.heap.size w w'):=aj (λo=>by
  have hb:Below w.heap.size w (w.alloc o):=(Below.refl _ _).alloc (Nat.le_refl _) _;refine(FD (w.alloc o) q ((hb.cell (p:=⟨q,1,none⟩) hq).trans k1)).mono ?_;rintro e w' ⟨he,h⟩;exact⟨he,aA hb h⟩)
 clear hz k1 hq;go_enter func101,ntmps101;go_wp2_with fail;refine(ah PR _).mono ?_;rintro e w1 ⟨rfl,b1⟩;have B1:=aj b1;clear PR b1;go_wp2_with fail;go_ret3;exact⟨_,rfl,ah B1⟩
section
variable {SH:World->Nat->Nat->(Nat->Prop)->aX->Prop}
abbrev Zf (v q:Nat)(size:Int)(W:World):Prop:=W.cell? ⟨v,0,none⟩=some (.pointer (some ⟨q,0,none⟩))/\W.cell? ⟨v,1,none⟩=some (.int .i64 size)
theorem Ih (H:dX SH)(w:World)(v q:Nat)(size:Int)(l0 s0:Value)(hz:1<=size/\size<=4096)(k1:w.cell? ⟨q,1,none⟩=some (.map none))(hq:q<w.heap.size)(hv:v<w.heap.size)(v0:w.cell? ⟨v,0,none⟩=some (.pointer (some ⟨q,0,none⟩)))(v1:w.cell? ⟨v,1,none⟩=some (.int .i64 size))(v2:w.cell? ⟨v,2,none⟩=some l0)(v3:w.cell? ⟨v,3,none⟩=some s0)(hf:∀j,w.frozen? ⟨v,j,none⟩=false) :
 Calls prog 75 #[.pointer (some ⟨v,0,none⟩)] w λe w'=>e=.returned (.int .i64 0)/\aF (λj=>j=v) w w'/\∃g k,w'.cell? ⟨v,0,none⟩=some (.pointer (some ⟨q,0,none⟩))/\w'.cell? ⟨v,1,none⟩=some (.int .i64 size)/\w'.cell? ⟨v,2,none⟩=some (.pointer (some ⟨g,0,none⟩))/\w'.cell? ⟨v,3,none⟩=some (.pointer (some ⟨k,0,none⟩)):=by
 have PO:=aj (MQ w.drew q size hz (by simpa using k1) (by simpa using hq));have Bd:=aj (show Below w.heap.size w w.drew from(Below.refl _ _).drew);have HV:Hid (∀W,Below w.heap.size w W->Zf v q size W/\v<W.heap.size/\W.cell? ⟨v,2,none⟩=some l0/\W.cell? ⟨v,3,none⟩=some s0/\∀j,W.frozen? ⟨v,j,none⟩=false):=aj (λW hW=>⟨⟨(hW.cell (p:=⟨v,0,none⟩) hv).trans v0,(hW.cell (p:=⟨v,1,none⟩) hv).trans v1⟩,Nat.lt_of_lt_of_le hv hW.size,(hW.cell (p:=⟨v,2,none⟩) hv).trans v2,(hW.cell (p:=⟨v,3,none⟩) hv).trans v3,λj=>(hW.frozen (p:=⟨v,j,none⟩) hv).trans (hf j)⟩);have k0:Zf v q size w.drew:=(ah HV _ (ah Bd)).1
 have PS:=aj H.new;clear hz k1 hq hv v0 v1 v2 v3 hf;go_enter func75,ntmps75;go_upto_region 1 with fail
 go_region_held3 (Zf v q size) (first|with_reducible assumption|go_keep)
  (first|(go_at_call 101;refine(ah PO).mono ?_;rintro e w1 ⟨g,rfl,b1⟩;have B1:=aj (aA (ah Bd) b1);have k1:Zf v q size w1:=(ah HV _ (ah B1)).1;clear b1))
 clear k0 k1 PO;go_wp2_with fail;refine(ah PS _).mono ?_;rintro e w2 ⟨k,F,rfl,_,b2⟩;have B2:=aj (aA (ah B1) b2);obtain⟨⟨d0,d1⟩,d4,d2,d3,df⟩:=ah HV _ (ah B2);have f2:=df 2;have f3:=df 3;clear b2 PS;go_wp2_with fail;go_loopw [28] (λiv wr=>iv=.int .i64 0/\wr=w2) (λ_ _=>0)
 case atStart=>exact⟨rfl,rfl⟩
 case round =>
  obtain⟨rfl,rfl⟩:=hrel;have HF:Hid (aF (λj=>j=v) w ((wr.setCell ⟨v,2,none⟩ (.pointer (some ⟨g,0,none⟩))).setCell ⟨v,3,none⟩ (.pointer (some ⟨k,0,none⟩)))/\∃g' k',((wr.setCell ⟨v,2,none⟩ (.pointer (some ⟨g,0,none⟩))).setCell ⟨v,3,none⟩ (.pointer (some ⟨k,0,none⟩))).cell? ⟨v,0,none⟩=some (.pointer (some ⟨q,0,none⟩))/\((wr.setCell ⟨v,2,none⟩ (.pointer (some ⟨g,0,none⟩))).setCell ⟨v,3,none⟩ (.pointer (some ⟨k,0,none⟩))).cell? ⟨v,1,none⟩=some (.int .i64 size)/\((wr.setCell ⟨v,2,none⟩ (.pointer (some ⟨g,0,none⟩))).setCell ⟨v,3,none⟩ (.pointer (some ⟨k,0,none⟩))).cell? ⟨v,2,none⟩=some (.pointer (some ⟨g',0,none⟩))/\((wr.setCell ⟨v,2,none⟩ (.pointer (some ⟨g,0,none⟩))).setCell ⟨v,3,none⟩ (.pointer (some ⟨k,0,none⟩))).cell? ⟨v,3,none⟩=some (.pointer (some ⟨k',0,none⟩))):=aj (by
   have o:∀(W:World) (i j:Nat) (x:Value),i≠j->(W.setCell ⟨v,j,none⟩ x).cell? ⟨v,i,none⟩=W.cell? ⟨v,i,none⟩:=λW i j x hi=>World.cell?_setCell_other _ _ _ _ (by intro e;injection e;omega)
   refine⟨((aF.of_below (A:=λj=>j=v) (ah B2)).setCell (p:=⟨v,2,none⟩) (.inl rfl) _).setCell (p:=⟨v,3,none⟩) (.inl rfl) _,g,k,?_,?_,?_,?_⟩
   ·rw[o _ 0 3 _ (by omega),o _ 0 2 _ (by omega)];exact d0
   ·rw[o _ 1 3 _ (by omega),o _ 1 2 _ (by omega)];exact d1
   ·rw[o _ 2 3 _ (by omega)];exact World.cell?_setCell_same _ _ _ d2
   ·exact World.cell?_setCell_same _ _ _ ((o _ 3 2 _ (by omega)).trans d3))
  go_wp2_with fail;go_ret;exact⟨rfl,ah HF⟩
end
abbrev dkO (m:Int):Obj:=.cells #[.int .i64 m,.map none] 162
theorem MR (w:World)(m:Int)(h:1<=m/\m<=65536):Calls prog 74 #[.int .i64 m] w λe w'=>e=.returned (.tuple #[.pointer (some ⟨w.heap.size,0,none⟩),.int .i64 0])/\w'=w.alloc (dkO m):=by
 have h1:¬m<1:=by omega
 have h2:¬65536<m:=by omega
 clear h;go_enter func74,ntmps74;go_wp2_with fail;go_ret2;exact⟨rfl,rfl⟩
section
variable {SH:World->Nat->Nat->(Nat->Prop)->aX->Prop}
abbrev VaS (v:Nat)(W:World):Prop:=v<W.heap.size/\∃q g k size,W.cell? ⟨v,0,none⟩=some (.pointer (some ⟨q,0,none⟩))/\W.cell? ⟨v,1,none⟩=some (.int .i64 size)/\W.cell? ⟨v,2,none⟩=some (.pointer (some ⟨g,0,none⟩))/\W.cell? ⟨v,3,none⟩=some (.pointer (some ⟨k,0,none⟩))
theorem Ii (H:dX SH)(w:World)(m size:Int)(hm:1<=m/\m<=65536)(hz:1<=size/\size<=4096) :
 Calls prog 47 #[.int .i64 m,.int .i64 size] w λe w'=>∃v,e=.returned (.tuple #[.pointer (some ⟨v,0,none⟩),.int .i64 0])/\w.heap.size<=v/\VaS v w'/\Below w.heap.size w w':=by
 have PD:=aj (MR w m hm);obtain⟨w1,hw1⟩:∃w1,w1=w.alloc (dkO m):=⟨_,rfl⟩;obtain⟨w2,hw2⟩:∃w2,w2=w1.alloc (.cells #[.pointer (some ⟨w.heap.size,0,none⟩),.int .i64 size,.pointer none,.pointer none] 101):=⟨_,rfl⟩;have b1:Below w.heap.size w w1:=by rw[hw1];exact(Below.refl _ _).alloc (Nat.le_refl _) _
 have b2:Below w1.heap.size w1 w2:=by rw[hw2];exact(Below.refl _ _).alloc (Nat.le_refl _) _
 have D1:CB w1 w.heap.size [.int .i64 m,.map none]:=by rw[hw1];exact CB.new w [.int .i64 m,.map none] _
 have D2:CB w2 w1.heap.size [.pointer (some ⟨w.heap.size,0,none⟩),.int .i64 size,.pointer none,.pointer none]:=by rw[hw2];exact CB.new w1 [.pointer (some ⟨w.heap.size,0,none⟩),.int .i64 size,.pointer none,.pointer none] _
 have PO:=aj (Ih H w2 w1.heap.size w.heap.size size (.pointer none) (.pointer none) hz ((D1.next b2).cell 1 _ rfl) (D1.next b2).lt D2.lt (D2.cell 0 _ rfl) (D2.cell 1 _ rfl) (D2.cell 2 _ rfl) (D2.cell 3 _ rfl) D2.fr);have HB:=aj (And.intro b1 b2);have HL:=aj D2.lt;rw[<-hw1] at PD;clear b1 b2 D1 D2 hm hz hw1;go_enter func47,ntmps47;go_wp2_with fail;refine(ah PD).mono ?_;rintro e w3 ⟨rfl,rfl⟩;go_upto_region 5 with fail
 rw[<-hw2];clear hw2 PD;go_wp2_with fail;refine(ah PO).mono ?_;rintro e w4 ⟨rfl,ch,g,k,c0,c1,c2,c3⟩;have HF:Hid (w.heap.size<=w3.heap.size/\VaS w3.heap.size w4/\Below w.heap.size w w4):=aj (by
  obtain⟨b1,b2⟩:=ah HB;have s1:=b1.size;have s2:=ch.size;have hl:=ah HL;exact⟨s1,⟨by omega,_,g,k,_,c0,c1,c2,c3⟩,(aA b1 b2).trans (ch.below (aA b1 b2).size (λj _ e=>by omega))⟩)
 clear PO HB HL ch c0 c1 c2 c3;go_wp2_with fail;go_ret2;exact⟨_,rfl,ah HF⟩
end
