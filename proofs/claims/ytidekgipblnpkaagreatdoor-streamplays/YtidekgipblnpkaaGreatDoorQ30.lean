/- A part. -/
import Derived.Test.YtidekgipblnpkaaGreatDoorQ18
import Derived.Test.YtidekgipblnpkaaGreatDoorQ20
import Derived.Deep.DrawnRows
import Derived.Deep.RegionHeldLaw
set_option maxRecDepth 100000
set_option maxHeartbeats 8000000
namespace Go.Proofs.YtidekgipblnpkaaGreatDoor
open Go.RowKit Go.Proofs.Tryz
attribute [local go_sem ↓] Go.wp_at_zero Go.wp_at_succ
theorem adr (k q t:Int)(s h d:ByteArray):((((aF [UInt8.ofNat k.toNat]++aF (Pk.enc q.toNat))++aF (Pk.enc t.toNat))++aF (Pk.kJ s.data.toList))++aF (Pk.kJ h.data.toList))++aF (Pk.kJ d.data.toList)=aF (Pk.zl ⟨k,q,t,s.data.toList,h.data.toList,d.data.toList⟩):=by
 rw[nY,nY,nY,nY,nY];unfold Pk.zl Pk.body;simp
theorem ads (W:World)(a:Addr)(x:Int)(n:Nat)(hn:n<256)(hx:x=n)(h:W.cell? a=some (.int .u8 x)) :
 (convert 189 9 (.slice (some a) 1 1)).run prog W=.ok (.string (aF [UInt8.ofNat n])) W:=by
 refine akF _ 189 9 5 a 1 [UInt8.ofNat n] underlying189 underlying5 underlying9 λj hj=>?_
 have hj0:j=0:=by simpa using hj
 subst hj0;simp only[amf];rw[Pk.lD hn,show a.add 0=a from by simp[Addr.add],h,hx]
structure GW (w0 W:World)(k q t:Int)(s h d:ByteArray):Prop where
 rb:RB W w0.heap.size k q t s h d
 Kt:Below w0.heap.size w0 W
theorem GW.next {w0 W w':World}{k q t:Int}{s h d:ByteArray}(g:GW w0 W k q t s h d)(b:Below W.heap.size W w'):GW w0 w' k q t s h d:=⟨g.rb.next b,ak g.Kt b⟩
theorem GW.drew {w0 W:World}{k q t:Int}{s h d:ByteArray}(g:GW w0 W k q t s h d):GW w0 W.drew k q t s h d:=g.next (ajb _ _).drew
theorem GW.alloc {w0 W:World}{k q t:Int}{s h d:ByteArray}(g:GW w0 W k q t s h d)(o:Obj):GW w0 (W.alloc o) k q t s h d:=g.next ((ajb _ _).alloc (Xc _) o)
theorem GW.cells {w0 W:World}{k q t:Int}{s h d:ByteArray}(g:GW w0 W k q t s h d):W.cell? ⟨w0.heap.size,0,none⟩=some (.int .i64 k)/\W.cell? ⟨w0.heap.size,1,none⟩=some (.int .i64 q)/\W.cell? ⟨w0.heap.size,2,none⟩=some (.int .i64 t)/\W.cell? ⟨w0.heap.size,3,none⟩=some (.string s)/\W.cell? ⟨w0.heap.size,4,none⟩=some (.string h)/\W.cell? ⟨w0.heap.size,5,none⟩=some (.string d) :=
 ⟨g.rb.c0,g.rb.c1,g.rb.c2,g.rb.c3,g.rb.c4,g.rb.c5⟩
theorem adt {c:Nat}(hl:c<4294967296):∀(W:World) (b:Nat),W.cell? ⟨b,0,none⟩=some (.int .u8 (IntKind.u8.wrap ((c:Int).tmod 256)))->W.cell? ⟨b,1,none⟩=some (.int .u8 (IntKind.u8.wrap ((IntKind.u32.wrap ((c:Int) / 256)).tmod 256))) ->
 W.cell? ⟨b,2,none⟩=some (.int .u8 (IntKind.u8.wrap ((IntKind.u32.wrap ((c:Int) / 65536)).tmod 256)))->W.cell? ⟨b,3,none⟩=some (.int .u8 (IntKind.u8.wrap (IntKind.u32.wrap ((c:Int) / 16777216)))) ->
 (convert 189 9 (.slice (some ⟨b,0,none⟩) 4 4)).run prog W=.ok (.string (aF (Pk.uZ c))) W:=by
 intro W b h0 h1 h2 h3;have u1:IntKind.u32.wrap ((c:Int) / 256)=(c:Int) / 256:=IntWalk.u32_in _ ⟨by omega,by omega⟩;have u2:IntKind.u32.wrap ((c:Int) / 65536)=(c:Int) / 65536:=IntWalk.u32_in _ ⟨by omega,by omega⟩;have u3:IntKind.u32.wrap ((c:Int) / 16777216)=(c:Int) / 16777216:=IntWalk.u32_in _ ⟨by omega,by omega⟩;rw[alf (by omega),amD _ ⟨by omega,by omega⟩] at h0;rw[u1,alf (by omega),amD _ ⟨by omega,by omega⟩] at h1;rw[u2,alf (by omega),amD _ ⟨by omega,by omega⟩] at h2;rw[u3,amD _ ⟨by omega,by omega⟩] at h3
 have hq:=LD hl;refine akF W 189 9 5 ⟨b,0,none⟩ 4 (Pk.uZ c) underlying189 underlying5 underlying9 λj hj=>?_
 have e:((Pk.uZ c).map (λb=>Value.int .u8 (b.toNat:Int)))[j]?=some (.int .u8 ((Pk.uZ c)[j].toNat:Int)):=by rw[akK,ajl hj];rfl
 rw[hq] at e;rw[<-e,UH,ajv];have hj4:j<4:=hj;match j,hj4 with
 | 0,_=>exact h0
 | 1,_=>exact h1
 | 2,_=>exact h2
 | 3,_=>exact h3
structure SL (W:World)(b:Nat)(k:Int):Prop where
 lt:b<W.heap.size
 c:W.cell? ⟨b,0,none⟩=some (.int .u8 (IntKind.u8.wrap k))
theorem SL.next {W w':World}{b:Nat}{k:Int}(x:SL W b k)(h:Below W.heap.size W w'):SL w' b k:=⟨ajc x.lt h.size,by rw[h.cell (p:=⟨b,0,none⟩) x.lt];exact x.c⟩
theorem SL.drew {W:World}{b:Nat}{k:Int}(x:SL W b k):SL W.drew b k:=x.next (ajb _ _).drew
theorem SL.Za (W:World)(b:Nat)(k:Int)(T:TypeId)(h:b=W.heap.size):SL (W.alloc (.cells #[.int .u8 (IntKind.u8.wrap k)] T)) b k:=by
 subst h;exact⟨by simp,by simp⟩
theorem SL.new (W:World)(k:Int)(T:TypeId):SL (W.alloc (.cells #[.int .u8 (IntKind.u8.wrap k)] T)) W.heap.size k:=SL.Za W _ k T rfl
def adu (w0:World)(k q t:Int)(s h d X0 X1 X2 X3 X4 X5:ByteArray):Exit->Act->World->Prop
 | .normal,a,W=>(∃v:Value,a={tmps:=#[.agg #[.int .i64 k,.int .i64 q,.int .i64 t,.string s,.string h,.string d],.pointer (some ⟨w0.heap.size,0,none⟩),.string ⟨#[]⟩,.string (X0++X1++X2++X3++X4++X5),undef,.pointer (some ⟨w0.heap.size,0,none⟩),.int .i64 k,.int .u8 (IntKind.u8.wrap k),v,.string X0,.pointer (some ⟨w0.heap.size,1,none⟩),.int .i64 q,.string X1,.string (X0++X1),.pointer (some ⟨w0.heap.size,2,none⟩),.int .i64 t,.string X2,.string (X0++X1++X2),.pointer (some ⟨w0.heap.size,3,none⟩),.string s,.string X3,.string (X0++X1++X2++X3),.pointer (some ⟨w0.heap.size,4,none⟩),.string h,.string X4,.string (X0++X1++X2++X3++X4),.pointer (some ⟨w0.heap.size,5,none⟩),.string d,.string X5,.string (X0++X1++X2++X3++X4++X5),undef,undef,undef,undef,undef,undef,undef,undef,undef,undef,undef,undef,undef,undef,undef,undef,undef,undef,undef,undef,undef],defers:=[]})/\GW w0 W k q t s h d
 | _,_,_=>False
theorem adu.mk {w0:World}{k q t:Int}{s h d X0 X1 X2 X3 X4 X5:ByteArray}{a:Act}{W:World}(x:∃v:Value,a={tmps:=#[.agg #[.int .i64 k,.int .i64 q,.int .i64 t,.string s,.string h,.string d],.pointer (some ⟨w0.heap.size,0,none⟩),.string ⟨#[]⟩,.string (X0++X1++X2++X3++X4++X5),undef,.pointer (some ⟨w0.heap.size,0,none⟩),.int .i64 k,.int .u8 (IntKind.u8.wrap k),v,.string X0,.pointer (some ⟨w0.heap.size,1,none⟩),.int .i64 q,.string X1,.string (X0++X1),.pointer (some ⟨w0.heap.size,2,none⟩),.int .i64 t,.string X2,.string (X0++X1++X2),.pointer (some ⟨w0.heap.size,3,none⟩),.string s,.string X3,.string (X0++X1++X2++X3),.pointer (some ⟨w0.heap.size,4,none⟩),.string h,.string X4,.string (X0++X1++X2++X3++X4),.pointer (some ⟨w0.heap.size,5,none⟩),.string d,.string X5,.string (X0++X1++X2++X3++X4++X5),undef,undef,undef,undef,undef,undef,undef,undef,undef,undef,undef,undef,undef,undef,undef,undef,undef,undef,undef,undef,undef],defers:=[]})(g:GW w0 W k q t s h d):adu w0 k q t s h d X0 X1 X2 X3 X4 X5 .normal a W:=⟨x,g⟩
theorem JK (k q t:Int)(s h d:ByteArray)(w:World)(hE:jB k q t s h d=0) :
 Calls prog 117 #[.agg #[.int .i64 k,.int .i64 q,.int .i64 t,.string s,.string h,.string d]] w λe w'=>e=.returned (.string (aF (Pk.wZ ⟨k,q,t,s.data.toList,h.data.toList,d.data.toList⟩)))/\Below w.heap.size w w':=by
 obtain⟨k1,k2,q1,q2,t1,t2,s1,s2⟩:=Pk.oC (r:=⟨k,q,t,s.data.toList,h.data.toList,d.data.toList⟩) hE;simp only[jd] at s1 s2 k1 k2 q1 q2 t1 t2;obtain⟨X0,hX0⟩:∃X,X=aF [UInt8.ofNat k.toNat]:=⟨_,rfl⟩;obtain⟨X1,hX1⟩:∃X,X=aF (Pk.enc q.toNat):=⟨_,rfl⟩;obtain⟨X2,hX2⟩:∃X,X=aF (Pk.enc t.toNat):=⟨_,rfl⟩;obtain⟨X3,hX3⟩:∃X,X=aF (Pk.kJ s.data.toList):=⟨_,rfl⟩;obtain⟨X4,hX4⟩:∃X,X=aF (Pk.kJ h.data.toList):=⟨_,rfl⟩;obtain⟨X5,hX5⟩:∃X,X=aF (Pk.kJ d.data.toList):=⟨_,rfl⟩;have z0:X0.size<=1:=by rw[hX0,aK];simp
 have z1:X1.size<=9:=by rw[hX1];exact zQ q2
 have z2:X2.size<=9:=by rw[hX2];exact zQ t2
 have z3:X3.size<=1009:=by rw[hX3];exact xC (by omega)
 have z4:X4.size<=1009:=by rw[hX4];exact xC (by omega)
 have z5:X5.size<=1009:=by rw[hX5];exact xC (by omega)
 have c1:¬9223372036854775807<X0.size+X1.size:=by omega
 have c2:¬9223372036854775807<X0.size+X1.size+X2.size:=by omega
 have c3:¬9223372036854775807<X0.size+X1.size+X2.size+X3.size:=by omega
 have c4:¬9223372036854775807<X0.size+X1.size+X2.size+X3.size+X4.size:=by omega
 have c5:¬9223372036854775807<X0.size+X1.size+X2.size+X3.size+X4.size+X5.size:=by omega
 have hE2:=adr k q t s h d;rw[<-hX0,<-hX1,<-hX2,<-hX3,<-hX4,<-hX5] at hE2;have E:=aj hE2;have C1:Hid (∀W:World,GW w W k q t s h d->Calls prog 147 #[.int .i64 q] W λe w'=>e=.returned (.string X1)/\GW w w' k q t s h d/\Below W.heap.size W w'):=aj (λW g=>by rw[hX1];exact(Gn q W (by omega)).mono λ_ _ ⟨h1,h2⟩=>⟨h1,g.next h2,h2⟩);have C2:Hid (∀W:World,GW w W k q t s h d->Calls prog 147 #[.int .i64 t] W λe w'=>e=.returned (.string X2)/\GW w w' k q t s h d/\Below W.heap.size W w'):=aj (λW g=>by rw[hX2];exact(Gn t W (by omega)).mono λ_ _ ⟨h1,h2⟩=>⟨h1,g.next h2,h2⟩)
 have C3:Hid (∀W:World,GW w W k q t s h d->Calls prog 148 #[.string s] W λe w'=>e=.returned (.string X3)/\GW w w' k q t s h d/\Below W.heap.size W w'):=aj (λW g=>by rw[hX3];exact(xO s W (by omega)).mono λ_ _ ⟨h1,h2⟩=>⟨h1,g.next h2,h2⟩);have C4:Hid (∀W:World,GW w W k q t s h d->Calls prog 148 #[.string h] W λe w'=>e=.returned (.string X4)/\GW w w' k q t s h d/\Below W.heap.size W w'):=aj (λW g=>by rw[hX4];exact(xO h W (by omega)).mono λ_ _ ⟨h1,h2⟩=>⟨h1,g.next h2,h2⟩);have C5:Hid (∀W:World,GW w W k q t s h d->Calls prog 148 #[.string d] W λe w'=>e=.returned (.string X5)/\GW w w' k q t s h d/\Below W.heap.size W w'):=aj (λW g=>by rw[hX5];exact(xO d W (by omega)).mono λ_ _ ⟨h1,h2⟩=>⟨h1,g.next h2,h2⟩)
 have hcv:∀(W:World) (a:Addr),W.cell? a=some (.int .u8 (IntKind.u8.wrap k))->(convert 189 9 (.slice (some a) 1 1)).run prog W=.ok (.string X0) W:=by
  rw[hX0];exact λW a h=>ads W a _ k.toNat (by omega) (by rw[amD _ ⟨by omega,by omega⟩];omega) h
 have G0:GW w (w.alloc (.cells #[.int .i64 k,.int .i64 q,.int .i64 t,.string s,.string h,.string d] 73)).drew k q t s h d:=GW.drew ⟨RB.new w k q t s h d _,(ajb _ _).alloc (Xc _) _⟩;have G1:GW w ((w.alloc (.cells #[.int .i64 k,.int .i64 q,.int .i64 t,.string s,.string h,.string d] 73)).alloc (.cells #[.int .u8 (IntKind.u8.wrap k)] 5)).drew k q t s h d:=GW.drew (GW.alloc ⟨RB.new w k q t s h d _,(ajb _ _).alloc (Xc _) _⟩ _);have s0:SL ((w.alloc (.cells #[.int .i64 k,.int .i64 q,.int .i64 t,.string s,.string h,.string d] 73)).alloc (.cells #[.int .u8 (IntKind.u8.wrap k)] 5)).drew (w.heap.size+1) k:=SL.drew (SL.Za _ _ _ _ (by simp))
 clear hX0 hX1 hX2 hX3 hX4 hX5 hE2 s1 s2 q1 q2 t1 t2 z0 z1 z2 z3 z4 z5;go_enter func117,ntmps117;go_wp2_with fail;refine Code.wp_mono (Q:=adu w k q t s h d X0 X1 X2 X3 X4 X5) ?_ ?_
 ·rintro e a W hm
  cases e with
  | normal =>
   obtain⟨⟨v,rfl⟩,g⟩:=hm;have zB:(X0++X1++X2++X3++X4++X5).size<=1024:=by rw[ah E,aK];exact(Pk.zn hE).2
   have R:Hid (aF (Pk.wZ ⟨k,q,t,s.data.toList,h.data.toList,d.data.toList⟩)=aF (Pk.kJ (X0++X1++X2++X3++X4++X5).data.toList)++aF (Pk.uZ (Pk.vM (X0++X1++X2++X3++X4++X5).data.toList))):=aj (by rw[ah E,aV,nY];rfl);have BG:=aj g.Kt;clear C1 C2 C3 C4 C5 G0 G1 s0 hcv g c1 c2 c3 c4 c5 E hE;generalize X0++X1++X2++X3++X4++X5=Y at zB R ⊢;obtain⟨c,hc⟩:∃c,c=Pk.vM Y.data.toList:=⟨_,rfl⟩;have hl:c<4294967296:=by rw[hc];exact Pk.Io _
   obtain⟨T,hT⟩:∃T,T=aF (Pk.kJ Y.data.toList):=⟨_,rfl⟩;rw[<-hc,<-hT] at R;have HC:=aj hc;have CT:Hid (∀W:World,Calls prog 148 #[.string Y] W λe w'=>e=.returned (.string T)/\Below W.heap.size W w'):=aj (λW=>by rw[hT];exact xO Y W (by omega));have zT:T.size<=1033:=by
    rw[hT,aK,Pk.kJ,ajh,jd];have:=Pk.jF (n:=Y.size) (by omega);omega
   have ai6:=adt hl;have zF:¬9223372036854775807<T.size+(aF (Pk.uZ c)).size:=by rw[aK,Pk.XE];omega
   clear hc hT;go_wp2_with fail;refine(zN Y _ (by omega)).mono ?_;rintro e w9 ⟨rfl,rfl⟩;rw[<-ah HC];go_wp2_with fail;go_region_held_law (λ_=>True) (trivial)
    (first
     | (go_at_call 148;refine(ah CT _).mono ?_;rintro e w10 ⟨rfl,b10⟩;have k0:=λh=>b10.cell (p:=⟨w9.heap.size,0,none⟩) h;have k1:=λh=>b10.cell (p:=⟨w9.heap.size,1,none⟩) h;have k2:=λh=>b10.cell (p:=⟨w9.heap.size,2,none⟩) h;have k3:=λh=>b10.cell (p:=⟨w9.heap.size,3,none⟩) h))
   all_goals go_wp2_with fail
   all_goals go_ret
   all_goals refine⟨by rw[ah R];rfl,?_⟩
   ·exact(ak (ah BG).drew b10).alloc (ak (ah BG).drew b10).size _
   ·exact ak ((ah BG).alloc (ah BG).size _).drew b10
   ·exact ak ((ah BG).alloc (ah BG).size _).drew b10
  | _=>exact hm.elim
 go_region_held_law (λw'=>w'.cell? ⟨w.heap.size,0,none⟩=some (.int .i64 k)/\w'.cell? ⟨w.heap.size,1,none⟩=some (.int .i64 q)/\w'.cell? ⟨w.heap.size,2,none⟩=some (.int .i64 t)/\w'.cell? ⟨w.heap.size,3,none⟩=some (.string s)/\w'.cell? ⟨w.heap.size,4,none⟩=some (.string h)/\w'.cell? ⟨w.heap.size,5,none⟩=some (.string d))
  (first|exact GW.cells g5a|exact GW.cells g5|exact GW.cells g4a|exact GW.cells g4|exact GW.cells g3a|exact GW.cells g3|exact GW.cells g2a|exact GW.cells g2|exact GW.cells g1a|exact GW.cells g1|exact GW.cells G1|exact GW.cells G0|go_keep)
  (first
   | (go_at_call 147;refine(ah C1 _ (by first|exact G0|exact G1)).mono ?_;rintro e w1 ⟨rfl,g1,b1⟩;have g1a:=g1.alloc (.cells #[.int .u8 (IntKind.u8.wrap k)] 5);(first|(have s1:=SL.next s0 b1;have t1:=s1.c)|skip);clear C1)
   | (go_at_call 147;refine(ah C2 _ (by first|exact g1|exact g1a)).mono ?_;rintro e w2 ⟨rfl,g2,b2⟩;have g2a:=g2.alloc (.cells #[.int .u8 (IntKind.u8.wrap k)] 5);(first|(have s2:=SL.next s1 b2;have t2:=s2.c)|(have s2:=SL.next (SL.new _ _ _) b2;have t2:=s2.c)|skip);clear C2)
   | (go_at_call 148;refine(ah C3 _ (by first|exact g2|exact g2a)).mono ?_;rintro e w3 ⟨rfl,g3,b3⟩;have g3a:=g3.alloc (.cells #[.int .u8 (IntKind.u8.wrap k)] 5);(first|(have s3:=SL.next s2 b3;have t3:=s3.c)|(have s3:=SL.next (SL.new _ _ _) b3;have t3:=s3.c)|skip);clear C3)
   | (go_at_call 148;refine(ah C4 _ (by first|exact g3|exact g3a)).mono ?_;rintro e w4 ⟨rfl,g4,b4⟩;have g4a:=g4.alloc (.cells #[.int .u8 (IntKind.u8.wrap k)] 5);(first|(have s4:=SL.next s3 b4;have t4:=s4.c)|(have s4:=SL.next (SL.new _ _ _) b4;have t4:=s4.c)|skip);clear C4)
   | (go_at_call 148;refine(ah C5 _ (by first|exact g4|exact g4a)).mono ?_;rintro e w5 ⟨rfl,g5,b5⟩;have g5a:=g5.alloc (.cells #[.int .u8 (IntKind.u8.wrap k)] 5);(first|(have s5:=SL.next s4 b5;have t5:=s5.c)|(have s5:=SL.next (SL.new _ _ _) b5;have t5:=s5.c)|skip);clear C5))
 all_goals first|exact adu.mk ⟨_,rfl⟩ g5|exact adu.mk ⟨_,rfl⟩ g5a
