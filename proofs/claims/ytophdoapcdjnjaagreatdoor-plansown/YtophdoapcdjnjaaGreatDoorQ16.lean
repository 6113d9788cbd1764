/- A part. -/
import Derived.Test.YtophdoapcdjnjaaGreatDoorQ11
set_option maxRecDepth 100000
set_option maxHeartbeats 8000000
namespace Go.Proofs.YtophdoapcdjnjaaGreatDoor
open Go.RowKit Go.Proofs.Tryz
theorem uY (n:ByteArray)(a:Option Addr)(l c:Nat)(x0 x1 x2 x3 x4 x5 x6 x7:Int)(w:World) :
 Calls prog 48 #[uN n a l c x0 x1 x2 x3 x4 x5 x6 x7] w λe w'=>∃g1 g2,e=.returned (.tuple #[.slice (some ⟨g1,0,none⟩) 8 8,.slice (some ⟨g2,0,none⟩) 8 8])/\Dk.jm w' (some ⟨g1,0,none⟩) [x0,x1,x2,x3,x4,x5,x6,x7]/\Dk.jm w' (some ⟨g2,0,none⟩) Pn.dB/\Below w.heap.size w w':=by
 obtain⟨W1,hW1⟩:∃W,W=w.alloc (.cells #[.string n,.slice a l c,.int .i64 x0,.int .i64 x1,.int .i64 x2,.int .i64 x3,.int .i64 x4,.int .i64 x5,.int .i64 x6,.int .i64 x7] 52):=⟨_,rfl⟩;have s1:W1.heap.size=w.heap.size+1:=by rw[hW1];simp
 have r1:=zS W1 x0 x1 x2 x3 x4 x5 x6 x7 3;obtain⟨W2,hW2⟩:∃W,W=W1.alloc (.cells #[.int .i64 x0,.int .i64 x1,.int .i64 x2,.int .i64 x3,.int .i64 x4,.int .i64 x5,.int .i64 x6,.int .i64 x7] 3):=⟨_,rfl⟩;rw[<-hW2,s1] at r1;have s2:W2.heap.size=w.heap.size+1+1:=by rw[hW2];simp[s1]
 have r2:=zS W2 200 65536 100000 200 256 1 2 100000 3;have b2:Below W2.heap.size W2 (W2.alloc (.cells #[.int .i64 200,.int .i64 65536,.int .i64 100000,.int .i64 200,.int .i64 256,.int .i64 1,.int .i64 2,.int .i64 100000] 3)):=(Below.refl _ _).alloc (Nat.le_refl _) _;have r3:=iy r1 b2;have b1:Below w.heap.size w W2:=by
  rw[hW2,hW1];exact((Below.refl _ _).alloc (Nat.le_refl _) _).alloc (by simp) _
 have HE:=aj (And.intro r3 (And.intro r2 (b1.trans (b2.mono (by omega)))));rw[s2,hW2,hW1] at HE;clear hW1 hW2 s1 s2 r1 r2 r3 b1 b2 W1 W2;go_enter func48,ntmps48;go_wp2_with fail;go_ret2;exact⟨w.heap.size+1,w.heap.size+1+1,rfl,ah HE⟩
theorem Hu (a b:Option Addr)(ca cb:Nat)(l:List ByteArray)(w:World)(ha:jg w a l)(hb:jg w b l)(je:l.length<=8796093021952) :
 Calls prog 49 #[.slice a l.length ca,.slice b l.length cb] w λe w'=>e=.returned (.bool true)/\∃q,w'=w.drewN q:=by
 have Ha:=aj ha;have Hb:=aj hb;clear ha hb;go_enter func49,ntmps49;go_wp2;go_loopw [13] (λkv wr=>∃(k:Nat),kv=.int .i64 k/\k<=l.length/\∃n,wr=w.drewN n) (λkv _=>l.length-(intOf kv).toNat)
 case atStart=>exact⟨0,rfl,Nat.zero_le _,0,rfl⟩
 case round =>
  obtain⟨k,rfl,hk,n,rfl⟩:=hrel;by_cases hlt:k<l.length
  ·obtain⟨g,o,rfl,_,c1⟩:=ah Ha k hlt;obtain⟨h,o2,rfl,_,c2⟩:=ah Hb k hlt;go_wp2;go_quiet (fail)
   go_wp2;exact⟨⟨k+1,by go_num,by omega,_,rfl⟩,by simp[intOf];omega⟩
  ·go_wp2;go_ret;exact⟨rfl,n,rfl⟩
def MF (w wr:World)(b1 b2:Nat)(n:ByteArray)(a1 a2:Option Addr)(l:List ByteArray)(c1 c2:Nat)(x0 x1 x2 x3 x4 x5 x6 x7:Int):Prop:=PB wr b1 n a1 l.length c1 x0 x1 x2 x3 x4 x5 x6 x7/\PB wr b2 n a2 l.length c2 x0 x1 x2 x3 x4 x5 x6 x7/\jg wr a1 l/\jg wr a2 l/\Below w.heap.size w wr
theorem MF.next {w wr w':World}{b1 b2:Nat}{n:ByteArray}{a1 a2:Option Addr}{l:List ByteArray}{c1 c2:Nat}{x0 x1 x2 x3 x4 x5 x6 x7:Int}(h:MF w wr b1 b2 n a1 a2 l c1 c2 x0 x1 x2 x3 x4 x5 x6 x7)(hb:Below wr.heap.size wr w'):MF w w' b1 b2 n a1 a2 l c1 c2 x0 x1 x2 x3 x4 x5 x6 x7:=⟨h.1.next hb,h.2.1.next hb,h.2.2.1.next hb,h.2.2.2.1.next hb,aA h.2.2.2.2 hb⟩
abbrev Yh (b1 b2:Nat)(n:ByteArray)(a1 a2:Option Addr)(l c1 c2:Nat)(w:World):Prop:=w.cell? ⟨b1,0,none⟩=some (.string n)/\w.cell? ⟨b1,1,none⟩=some (.slice a1 l c1)/\w.cell? ⟨b2,0,none⟩=some (.string n)/\w.cell? ⟨b2,1,none⟩=some (.slice a2 l c2)
theorem MF.four {w wr:World}{b1 b2:Nat}{n:ByteArray}{a1 a2:Option Addr}{l:List ByteArray}{c1 c2:Nat}{x0 x1 x2 x3 x4 x5 x6 x7:Int}(h:MF w wr b1 b2 n a1 a2 l c1 c2 x0 x1 x2 x3 x4 x5 x6 x7):Yh b1 b2 n a1 a2 l.length c1 c2 wr:=⟨h.1.c0,h.1.c1,h.2.1.c0,h.2.1.c1⟩
theorem uh (n:ByteArray)(a1 a2:Option Addr)(l:List ByteArray)(c1 c2:Nat)(x0 x1 x2 x3 x4 x5 x6 x7:Int)(w:World)(h1:jg w a1 l)(h2:jg w a2 l)(hl:l.length<=8796093021952) :
 Calls prog 21 #[uN n a1 l.length c1 x0 x1 x2 x3 x4 x5 x6 x7,uN n a2 l.length c2 x0 x1 x2 x3 x4 x5 x6 x7] w λe w'=>e=.returned (.bool true)/\Below w.heap.size w w':=by
 obtain⟨W1,hW1⟩:∃W,W=w.alloc (.cells #[.string n,.slice a1 l.length c1,.int .i64 x0,.int .i64 x1,.int .i64 x2,.int .i64 x3,.int .i64 x4,.int .i64 x5,.int .i64 x6,.int .i64 x7] 52):=⟨_,rfl⟩;have k1:Below w.heap.size w W1:=by rw[hW1];exact(Below.refl _ _).alloc (Nat.le_refl _) _
 have s1:W1.heap.size=w.heap.size+1:=by rw[hW1];simp
 have p1:PB W1 w.heap.size n a1 l.length c1 x0 x1 x2 x3 x4 x5 x6 x7:=by rw[hW1];exact PB.new w n a1 l.length c1 x0 x1 x2 x3 x4 x5 x6 x7 _
 obtain⟨W2,hW2⟩:∃W,W=W1.alloc (.cells #[.string n,.slice a2 l.length c2,.int .i64 x0,.int .i64 x1,.int .i64 x2,.int .i64 x3,.int .i64 x4,.int .i64 x5,.int .i64 x6,.int .i64 x7] 52):=⟨_,rfl⟩;have k2:Below W1.heap.size W1 W2:=by rw[hW2];exact(Below.refl _ _).alloc (Nat.le_refl _) _
 have p2:PB W2 W1.heap.size n a2 l.length c2 x0 x1 x2 x3 x4 x5 x6 x7:=by rw[hW2];exact PB.new W1 n a2 l.length c2 x0 x1 x2 x3 x4 x5 x6 x7 _
 have Q0:Hid (MF w W2 w.heap.size (w.heap.size+1) n a1 a2 l c1 c2 x0 x1 x2 x3 x4 x5 x6 x7):=aj (by
  rw[s1] at p2;exact⟨p1.next k2,p2,(h1.next k1).next k2,(h2.next k1).next k2,aA k1 k2⟩)
 obtain⟨b1,hb1⟩:∃b,b=w.heap.size:=⟨_,rfl⟩;obtain⟨b2,hb2⟩:∃b,b=w.heap.size+1:=⟨_,rfl⟩;rw[<-hb2,<-hb1] at Q0;rw[hW1] at hW2;clear hW1 k1 k2 s1 p1 p2 h1 h2;have PV1:=aj (uY n a1 l.length c1 x0 x1 x2 x3 x4 x5 x6 x7 W2);go_enter func21,ntmps21;go_wp2_with fail;rw[<-hW2,<-hb2,<-hb1];clear hW2 hb1 hb2 W1;refine(ah PV1).mono ?_;rintro e w1 ⟨g1,g2,rfl,v1,_,k1⟩;have Q1:=aj ((ah Q0).next k1);have V1:=aj v1;have PV2:=aj (uY n a2 l.length c2 x0 x1 x2 x3 x4 x5 x6 x7 w1);obtain⟨_,y0,y1,y2,y3,y4,y5,y6,y7,y8,y9⟩:=(ah Q1).2.1;clear PV1 Q0 v1 k1;go_wp2_with fail;refine(ah PV2).mono ?_
 rintro e w2 ⟨g3,g4,rfl,v3,_,k2⟩;have Q2:=aj ((ah Q1).next k2);have V3:=aj (And.intro (iy (ah V1) k2) v3);have B2:=aj (ah Q2).2.2.2.2;obtain⟨f0,f1,f2,f3⟩:=(ah Q2).four;have PE:=aj (Hu a1 a2 c1 c2 l w2 (ah Q2).2.2.1 (ah Q2).2.2.2.1 hl);clear PV2 Q1 V1 v3 k2 y0 y1 y2 y3 y4 y5 y6 y7 y8 y9;go_wp2_with fail;refine(ah PE).mono ?_;rintro e w4 ⟨rfl,q4,rfl⟩;have PN:=aj (Dk.wZ (some ⟨g1,0,none⟩) (some ⟨g3,0,none⟩) 8 8 [x0,x1,x2,x3,x4,x5,x6,x7] (w2.drewN q4) (iy (ah V3).1 (below_drewN (Below.refl _ _) q4)) (iy (ah V3).2 (below_drewN (Below.refl _ _) q4)) (by simp))
 clear PE V3 Q2 f0 f1 f2 f3;go_wp2_with fail;refine(ah PN).mono ?_;rintro e w5 ⟨rfl,q5,rfl⟩;clear PN;go_wp2_with fail;go_ret;exact⟨rfl,below_drewN (ah B2) _⟩
