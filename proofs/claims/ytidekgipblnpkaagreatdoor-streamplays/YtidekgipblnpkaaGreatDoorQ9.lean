/- A part. -/
import Derived.Test.YtidekgipblnpkaaGreatDoorQ6
set_option maxRecDepth 100000
set_option maxHeartbeats 8000000
namespace Go.Proofs.YtidekgipblnpkaaGreatDoor
open Go.RowKit Go.Proofs.Tryz
theorem Zi (w:World)(x0 x1 x2 x3:Int)(l:List UInt8)(h:l.map (λb=>Value.int .u8 (b.toNat:Int))=[.int .u8 x0,.int .u8 x1,.int .u8 x2,.int .u8 x3]) :
 (convert 189 9 (.slice (some ⟨w.heap.size,0,none⟩) 4 4)).run prog (w.alloc (.cells #[.int .u8 x0,.int .u8 x1,.int .u8 x2,.int .u8 x3] 5))=.ok (.string (aF l)) (w.alloc (.cells #[.int .u8 x0,.int .u8 x1,.int .u8 x2,.int .u8 x3] 5)):=by
 have hl:l.length=4:=by have:=congrArg List.length h;simpa using this
 have:=akF (w.alloc (.cells #[.int .u8 x0,.int .u8 x1,.int .u8 x2,.int .u8 x3] 5)) 189 9 5 ⟨w.heap.size,0,none⟩ 4 l underlying189 underlying5 underlying9 (λj hj=>by
  have hj4:j<4:=by omega
  have e:(l.map (λb=>Value.int .u8 (b.toNat:Int)))[j]?=some (.int .u8 (l[j].toNat:Int)):=by simp[List.getElem?_eq_getElem hj]
  rw[h] at e;rw[<-e,UH,ajv];match j,hj4 with
  | 0,_=>simp
  | 1,_=>simp
  | 2,_=>simp
  | 3,_=>simp)
 rw[hl] at this;exact this
theorem Zj (w:World)(x:Int)(n:Nat)(h:n<256)(hx:x=n) :
 (convert 189 9 (.slice (some ⟨w.heap.size,0,none⟩) 1 1)).run prog (w.alloc (.cells #[.int .u8 x] 5))=.ok (.string (aF [UInt8.ofNat n])) (w.alloc (.cells #[.int .u8 x] 5)):=by
 subst hx;refine akF _ 189 9 5 ⟨w.heap.size,0,none⟩ 1 [UInt8.ofNat n] underlying189 underlying5 underlying9 λj hj=>?_
 have hj0:j=0:=by simpa using hj
 subst hj0;have:=ou w (.int .u8 (n:Int)) 5 0 (.int .u8 (n:Int)) rfl;rw[this];simp only[amf];rw[Pk.lD h]
theorem LD {c:Nat}(h:c<4294967296):(Pk.uZ c).map (λb=>Value.int .u8 (b.toNat:Int))=[.int .u8 ((c:Int) % 256),.int .u8 ((c:Int) / 256 % 256),.int .u8 ((c:Int) / 65536 % 256),.int .u8 ((c:Int) / 16777216)]:=by
 unfold Pk.uZ;simp only[akt,alS];rw[Pk.lD (by omega),Pk.lD (by omega),Pk.lD (by omega),Pk.lD (by omega)];rw[show c / 16777216 % 256=c / 16777216 from by omega];simp
theorem rG (s:ByteArray)(w:World)(hs:s.size<=1000000000000000000) :
 Calls prog 212 #[.string s] w λe w'=>e=.returned (.string (aF (Pk.uZ (Pk.vM s.data.toList))))/\Below w.heap.size w w':=by
 obtain⟨c,hc⟩:∃c,c=Pk.vM s.data.toList:=⟨_,rfl⟩;have hl:c<4294967296:=by rw[hc];exact Pk.Io _
 have HC:=aj hc;have hcv:=aj (Zi w _ _ _ _ _ (LD hl));clear hc;go_enter func212,ntmps212;go_wp2_with fail;refine(aeZ s _ hs).mono ?_;rintro e w1 ⟨rfl,rfl⟩;rw[<-ah HC];go_wp2_with fail;rw[ah hcv];go_wp2_with fail;go_ret;exact⟨by rw[<-ah HC];rfl,(ajb _ _).alloc (Xc _) _⟩
theorem nY (a b:List UInt8):aF a++aF b=aF (a++b):=by rw[zL,aV]
theorem ae6 (k q t:Int)(s h d:ByteArray):(((aF [UInt8.ofNat k.toNat]++(aF (Pk.enc q.toNat)++aF (Pk.enc t.toNat)))++aF (Pk.kJ s.data.toList))++aF (Pk.kJ h.data.toList))++aF (Pk.kJ d.data.toList)=aF (Pk.zl ⟨k,q,t,s.data.toList,h.data.toList,d.data.toList⟩):=by
 rw[nY,nY,nY,nY,nY];unfold Pk.zl Pk.body;simp
theorem xC {s:ByteArray}(h:s.size<=1000):(aF (Pk.kJ s.data.toList)).size<=1009:=by
 rw[aK,Pk.kJ,ajh];have:=Pk.jF (n:=s.data.toList.length) (by simp;omega);simp at this ⊢;omega
theorem zQ {n:Int}(h:n<=1099511627776):(aF (Pk.enc n.toNat)).size<=9:=by
 rw[aK];exact Pk.jF (by omega)
theorem Vf (k q t:Int)(s h d:ByteArray)(w:World)(hk0:1<=k)(hk:k<=4)(hq:q<=1099511627776)(ht:t<=1099511627776)(hs:s.size<=1000)(hh:h.size<=1000)(hd:d.size<=1000) :
 Calls prog 210 #[.agg #[.int .i64 k,.int .i64 q,.int .i64 t,.string s,.string h,.string d]] w λe w'=>e=.returned (.string (aF (Pk.zl ⟨k,q,t,s.data.toList,h.data.toList,d.data.toList⟩)))/\Below w.heap.size w w':=by
 obtain⟨X0,hX0⟩:∃X,X=aF [UInt8.ofNat k.toNat]:=⟨_,rfl⟩;obtain⟨X1,hX1⟩:∃X,X=aF (Pk.enc q.toNat):=⟨_,rfl⟩;obtain⟨X2,hX2⟩:∃X,X=aF (Pk.enc t.toNat):=⟨_,rfl⟩;obtain⟨X3,hX3⟩:∃X,X=aF (Pk.kJ s.data.toList):=⟨_,rfl⟩;obtain⟨X4,hX4⟩:∃X,X=aF (Pk.kJ h.data.toList):=⟨_,rfl⟩;obtain⟨X5,hX5⟩:∃X,X=aF (Pk.kJ d.data.toList):=⟨_,rfl⟩;have z0:X0.size<=1:=by rw[hX0,aK];simp
 have z1:X1.size<=9:=by rw[hX1];exact zQ hq
 have z2:X2.size<=9:=by rw[hX2];exact zQ ht
 have z3:X3.size<=1009:=by rw[hX3];exact xC hs
 have z4:X4.size<=1009:=by rw[hX4];exact xC hh
 have z5:X5.size<=1009:=by rw[hX5];exact xC hd
 have c1:¬9223372036854775807<X1.size+X2.size:=by omega
 have c2:¬9223372036854775807<X0.size+(X1.size+X2.size):=by omega
 have c3:¬9223372036854775807<X0.size+(X1.size+X2.size)+X3.size:=by omega
 have c4:¬9223372036854775807<X0.size+(X1.size+X2.size)+X3.size+X4.size:=by omega
 have c5:¬9223372036854775807<X0.size+(X1.size+X2.size)+X3.size+X4.size+X5.size:=by omega
 have E:=aj (ae6 k q t s h d);rw[<-hX0,<-hX1,<-hX2,<-hX3,<-hX4,<-hX5] at E;have C1:Hid (∀W:World,Calls prog 230 #[.int .i64 q] W λe w'=>e=.returned (.string X1)/\Below W.heap.size W w'):=aj (λW=>by rw[hX1];exact IV q W (by omega));have C2:Hid (∀W:World,Calls prog 230 #[.int .i64 t] W λe w'=>e=.returned (.string X2)/\Below W.heap.size W w'):=aj (λW=>by rw[hX2];exact IV t W (by omega));have C3:Hid (∀W:World,Calls prog 211 #[.string s] W λe w'=>e=.returned (.string X3)/\Below W.heap.size W w'):=aj (λW=>by rw[hX3];exact zM s W (by omega));have C4:Hid (∀W:World,Calls prog 211 #[.string h] W λe w'=>e=.returned (.string X4)/\Below W.heap.size W w'):=aj (λW=>by rw[hX4];exact zM h W (by omega))
 have C5:Hid (∀W:World,Calls prog 211 #[.string d] W λe w'=>e=.returned (.string X5)/\Below W.heap.size W w'):=aj (λW=>by rw[hX5];exact zM d W (by omega));have hcv:=aj (Zj (w.alloc (.cells #[.int .i64 k,.int .i64 q,.int .i64 t,.string s,.string h,.string d] 73)) k k.toNat (by omega) (by omega));rw[<-hX0] at hcv;clear hX0 hX1 hX2 hX3 hX4 hX5;go_enter func210,ntmps210;go_wp2_with fail;have hcv2:=ah hcv;rw[show(w.alloc (.cells #[.int .i64 k,.int .i64 q,.int .i64 t,.string s,.string h,.string d] 73)).heap.size=w.heap.size+1 from by simp] at hcv2;rw[hcv2];clear hcv2 hcv
 go_wp2_with fail;have B0:Hid (Below w.heap.size w ((w.alloc (.cells #[.int .i64 k,.int .i64 q,.int .i64 t,.string s,.string h,.string d] 73)).alloc (.cells #[.int .u8 k] 5))):=aj (((ajb _ _).alloc (Xc _) _).alloc (by simp) _);have R0:=aj ((RB.new w k q t s h d 73).alloc (.cells #[.int .u8 k] 5)).drew;go_region_held3 (λw'=>w'.cell? ⟨w.heap.size,1,none⟩=some (.int .i64 q)/\w'.cell? ⟨w.heap.size,2,none⟩=some (.int .i64 t)) (first|(refine⟨?_,?_⟩<;>assumption)|go_keep)
  (first
   | (go_at_call 230;refine(ah C1 _).mono ?_;rintro e w2 ⟨rfl,b2⟩;have R2:=aj ((ah R0).next b2);have d1:=(ah R2).c1;have d2:=(ah R2).c2;clear C1)
   | (go_at_call 230;refine(ah C2 _).mono ?_;rintro e w3 ⟨rfl,b3⟩;have R3:=aj ((ah R2).next b3);have e1:=(ah R3).c1;have e2:=(ah R3).c2;clear C2))
 have B3:=aj (ak (ak (ah B0).drew b2) b3);have R4:=aj (ah R3).drew;have l3:=(ah R4).c3;have l4:=(ah R4).c4;have l5:=(ah R4).c5;clear b2 b3 d1 d2 e1 e2 B0 R0 R2 R3;go_wp2_with fail;go_region_held3 (λw'=>w'.cell? ⟨w.heap.size,3,none⟩=some (.string s)/\w'.cell? ⟨w.heap.size,4,none⟩=some (.string h)/\w'.cell? ⟨w.heap.size,5,none⟩=some (.string d)) (first|(refine⟨?_,?_,?_⟩<;>assumption)|go_keep)
  (first
   | (go_at_call 211;refine(ah C3 _).mono ?_;rintro e w5 ⟨rfl,b5⟩;have R5:=aj ((ah R4).next b5);have d3:=(ah R5).c3;have d4:=(ah R5).c4;have d5:=(ah R5).c5;clear C3)
   | (go_at_call 211;refine(ah C4 _).mono ?_;rintro e w6 ⟨rfl,b6⟩;have R6:=aj ((ah R5).next b6);have e3:=(ah R6).c3;have e4:=(ah R6).c4;have e5:=(ah R6).c5;clear C4)
   | (go_at_call 211;refine(ah C5 _).mono ?_;rintro e w7 ⟨rfl,b7⟩;have R7:=aj ((ah R6).next b7);have f3:=(ah R7).c3;have f4:=(ah R7).c4;have f5:=(ah R7).c5;clear C5))
 go_wp2_with fail;go_ret;exact⟨by rw[<-ah E];rfl,ak (ak (ak (ah B3).drew b5) b6) b7⟩
