/- A part. -/
import Derived.Test.YtebofkkfbkodiaaGreatDoorQ8
set_option maxRecDepth 100000
set_option maxHeartbeats 8000000
namespace Go.Proofs.YtebofkkfbkodiaaGreatDoor
open Go.RowKit Go.Proofs.Tryz
theorem XO (w:I)(x0 x1 x2 x3:Int)(l:List UInt8)(h:l.map (λb=>Value.int .u8 (b.toNat:Int))=[.int .u8 x0,.int .u8 x1,.int .u8 x2,.int .u8 x3]) :
 (convert 113 9 (.slice (some ⟨w.heap.size,0,none⟩) 4 4)).run prog (w.alloc (.cells #[.int .u8 x0,.int .u8 x1,.int .u8 x2,.int .u8 x3] 5))=.ok (.string (aG l)) (w.alloc (.cells #[.int .u8 x0,.int .u8 x1,.int .u8 x2,.int .u8 x3] 5)):=by
 have hl:l.length=4:=by have:=congrArg List.length h;simpa using this
 have:=amn (w.alloc (.cells #[.int .u8 x0,.int .u8 x1,.int .u8 x2,.int .u8 x3] 5)) 113 9 5 ⟨w.heap.size,0,none⟩ 4 l underlying113 underlying5 underlying9 (λj hj=>by
  have hj4:j<4:=by omega
  have e:(l.map (λb=>Value.int .u8 (b.toNat:Int)))[j]?=some (.int .u8 (l[j].toNat:Int)):=by simp[List.getElem?_eq_getElem hj]
  rw[h] at e;rw[<-e,RP,ajT];match j,hj4 with
  | 0,_=>simp
  | 1,_=>simp
  | 2,_=>simp
  | 3,_=>simp)
 rw[hl] at this;exact this
theorem XP (w:I)(x:Int)(n:Nat)(h:n<256)(hx:x=n) :
 (convert 113 9 (.slice (some ⟨w.heap.size,0,none⟩) 1 1)).run prog (w.alloc (.cells #[.int .u8 x] 5))=.ok (.string (aG [UInt8.ofNat n])) (w.alloc (.cells #[.int .u8 x] 5)):=by
 subst hx;refine amn _ 113 9 5 ⟨w.heap.size,0,none⟩ 1 [UInt8.ofNat n] underlying113 underlying5 underlying9 λj hj=>?_
 have hj0:j=0:=by simpa using hj
 subst hj0;have:=uU w (.int .u8 (n:Int)) 5 0 (.int .u8 (n:Int)) rfl;rw[this];simp only[List.getElem_cons_zero];rw[Pk.rX h]
theorem XQ {c:Nat}(h:c<4294967296):(Pk.le4 c).map (λb=>Value.int .u8 (b.toNat:Int))=[.int .u8 ((c:Int) % 256),.int .u8 ((c:Int) / 256 % 256),.int .u8 ((c:Int) / 65536 % 256),.int .u8 ((c:Int) / 16777216)]:=by
 unfold Pk.le4;simp only[akw,alZ];rw[Pk.rX (by omega),Pk.rX (by omega),Pk.rX (by omega),Pk.rX (by omega)];rw[show c / 16777216 % 256=c / 16777216 from by omega];simp
theorem qG (s:ad)(w:I)(hs:s.size<=1000000000000000000) :
 Calls prog 231 #[.string s] w λe w'=>e=.returned (.string (aG (Pk.le4 (Pk.crc s.data.toList))))/\ai w w':=by
 obtain⟨c,hc⟩:∃c,c=Pk.crc s.data.toList:=⟨_,rfl⟩;have hl:c<4294967296:=by rw[hc];exact Pk.af2 _
 have HC:=aj hc;have hcv:=aj (XO w _ _ _ _ _ (XQ hl));clear hc;go_enter func231,ntmps231;go_wp2_with fail;refine(sum_any s _ hs).mono ?_;rintro e w1 ⟨rfl,rfl⟩;rw[<-ah HC];go_wp2_with fail;rw[ah hcv];go_wp2_with fail;go_ret;exact⟨by rw[<-ah HC];rfl,ax _ _⟩
theorem Aw (a b:List UInt8):aG a++aG b=aG (a++b):=by rw[Ob,dL]
theorem aee (k q t:Int)(s h d:ad):(((aG [UInt8.ofNat k.toNat]++(aG (Pk.enc q.toNat)++aG (Pk.enc t.toNat)))++aG (Pk.txt s.data.toList))++aG (Pk.txt h.data.toList))++aG (Pk.txt d.data.toList)=aG (Pk.Ak ⟨k,q,t,s.data.toList,h.data.toList,d.data.toList⟩):=by
 rw[Aw,Aw,Aw,Aw,Aw];unfold Pk.Ak Pk.body;simp
theorem KX {s:ad}(h:s.size<=1000):(aG (Pk.txt s.data.toList)).size<=1009:=by
 rw[aU,Pk.txt,ajB];have:=Pk.l7 (n:=s.data.toList.length) (by simp;omega);simp at this ⊢;omega
theorem Oi {n:Int}(h:n<=1099511627776):(aG (Pk.enc n.toNat)).size<=9:=by
 rw[aU];exact Pk.l7 (by omega)
theorem Td (k q t:Int)(s h d:ad)(w:I)(hk0:1<=k)(hk:k<=4)(hq:q<=1099511627776)(ht:t<=1099511627776)(hs:s.size<=1000)(hh:h.size<=1000)(hd:d.size<=1000) :
 Calls prog 229 #[.agg #[aa k,aa q,aa t,.string s,.string h,.string d]] w λe w'=>e=.returned (.string (aG (Pk.Ak ⟨k,q,t,s.data.toList,h.data.toList,d.data.toList⟩)))/\ai w w':=by
 obtain⟨X0,hX0⟩:∃X,X=aG [UInt8.ofNat k.toNat]:=⟨_,rfl⟩;obtain⟨X1,hX1⟩:∃X,X=aG (Pk.enc q.toNat):=⟨_,rfl⟩;obtain⟨X2,hX2⟩:∃X,X=aG (Pk.enc t.toNat):=⟨_,rfl⟩;obtain⟨X3,hX3⟩:∃X,X=aG (Pk.txt s.data.toList):=⟨_,rfl⟩;obtain⟨X4,hX4⟩:∃X,X=aG (Pk.txt h.data.toList):=⟨_,rfl⟩;obtain⟨X5,hX5⟩:∃X,X=aG (Pk.txt d.data.toList):=⟨_,rfl⟩;have z0:X0.size<=1:=by rw[hX0,aU];simp
 have z1:X1.size<=9:=by rw[hX1];exact Oi hq
 have z2:X2.size<=9:=by rw[hX2];exact Oi ht
 have z3:X3.size<=1009:=by rw[hX3];exact KX hs
 have z4:X4.size<=1009:=by rw[hX4];exact KX hh
 have z5:X5.size<=1009:=by rw[hX5];exact KX hd
 have c1:¬9223372036854775807<X1.size+X2.size:=by omega
 have c2:¬9223372036854775807<X0.size+(X1.size+X2.size):=by omega
 have c3:¬9223372036854775807<X0.size+(X1.size+X2.size)+X3.size:=by omega
 have c4:¬9223372036854775807<X0.size+(X1.size+X2.size)+X3.size+X4.size:=by omega
 have c5:¬9223372036854775807<X0.size+(X1.size+X2.size)+X3.size+X4.size+X5.size:=by omega
 have E:=aj (aee k q t s h d);rw[<-hX0,<-hX1,<-hX2,<-hX3,<-hX4,<-hX5] at E;have C1:Hid (∀W:I,Calls prog 253 #[aa q] W λe w'=>e=.returned (.string X1)/\ai W w'):=aj (λW=>by rw[hX1];exact EL q W (by omega));have C2:Hid (∀W:I,Calls prog 253 #[aa t] W λe w'=>e=.returned (.string X2)/\ai W w'):=aj (λW=>by rw[hX2];exact EL t W (by omega));have C3:Hid (∀W:I,Calls prog 230 #[.string s] W λe w'=>e=.returned (.string X3)/\ai W w'):=aj (λW=>by rw[hX3];exact yS s W (by omega));have C4:Hid (∀W:I,Calls prog 230 #[.string h] W λe w'=>e=.returned (.string X4)/\ai W w'):=aj (λW=>by rw[hX4];exact yS h W (by omega))
 have C5:Hid (∀W:I,Calls prog 230 #[.string d] W λe w'=>e=.returned (.string X5)/\ai W w'):=aj (λW=>by rw[hX5];exact yS d W (by omega));have hcv:=aj (XP (w.alloc (.cells #[aa k,aa q,aa t,.string s,.string h,.string d] 46)) k k.toNat (by omega) (by omega));rw[<-hX0] at hcv;clear hX0 hX1 hX2 hX3 hX4 hX5;go_enter func229,ntmps229;go_wp2_with fail;have hcv2:=ah hcv;rw[show(w.alloc (.cells #[aa k,aa q,aa t,.string s,.string h,.string d] 46)).heap.size=w.heap.size+1 from by simp] at hcv2;rw[hcv2];clear hcv2 hcv
 go_wp2_with fail;have B0:Hid (ai w ((w.alloc (.cells #[aa k,aa q,aa t,.string s,.string h,.string d] 46)).alloc (.cells #[.int .u8 k] 5))):=aj ((ax _ _).alloc (by simp) _);have R0:=aj ((RB.new w k q t s h d 46).alloc (.cells #[.int .u8 k] 5)).drew;go_region_held3 (λw'=>w'.cell? (aq w.heap.size 1)=some (aa q)/\w'.cell? (aq w.heap.size 2)=some (aa t)) (first|(refine⟨?_,?_⟩<;>assumption)|go_keep)
  (first
   | (go_at_call 253;refine(ah C1 _).mono ?_;rintro e w2 ⟨rfl,b2⟩;have R2:=aj ((ah R0).next b2);have d1:=(ah R2).c1;have d2:=(ah R2).c2;clear C1)
   | (go_at_call 253;refine(ah C2 _).mono ?_;rintro e w3 ⟨rfl,b3⟩;have R3:=aj ((ah R2).next b3);have e1:=(ah R3).c1;have e2:=(ah R3).c2;clear C2))
 have B3:=aj (ak (ak (ah B0).drew b2) b3);have R4:=aj (ah R3).drew;have l3:=(ah R4).c3;have l4:=(ah R4).c4;have l5:=(ah R4).c5;clear b2 b3 d1 d2 e1 e2 B0 R0 R2 R3;go_wp2_with fail;go_region_held3 (λw'=>w'.cell? (aq w.heap.size 3)=some (.string s)/\w'.cell? (aq w.heap.size 4)=some (.string h)/\w'.cell? (aq w.heap.size 5)=some (.string d)) (first|(refine⟨?_,?_,?_⟩<;>assumption)|go_keep)
  (first
   | (go_at_call 230;refine(ah C3 _).mono ?_;rintro e w5 ⟨rfl,b5⟩;have R5:=aj ((ah R4).next b5);have d3:=(ah R5).c3;have d4:=(ah R5).c4;have d5:=(ah R5).c5;clear C3)
   | (go_at_call 230;refine(ah C4 _).mono ?_;rintro e w6 ⟨rfl,b6⟩;have R6:=aj ((ah R5).next b6);have e3:=(ah R6).c3;have e4:=(ah R6).c4;have e5:=(ah R6).c5;clear C4)
   | (go_at_call 230;refine(ah C5 _).mono ?_;rintro e w7 ⟨rfl,b7⟩;have R7:=aj ((ah R6).next b7);have f3:=(ah R7).c3;have f4:=(ah R7).c4;have f5:=(ah R7).c5;clear C5))
 go_wp2_with fail;go_ret;exact⟨by rw[<-ah E];rfl,ak (ak (ak (ah B3).drew b5) b6) b7⟩
