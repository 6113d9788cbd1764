/- A part. -/
import Derived.Test.YtidekgipblnpkaaGreatDoorQ37
set_option maxRecDepth 100000
set_option maxHeartbeats 8000000
namespace Go.Proofs.YtidekgipblnpkaaGreatDoor
open Go.RowKit Go.Proofs.Tryz
namespace Dk
theorem aiL (r:Rc)(W:World):(binOp .neq 73 (.agg #[.int .i64 r.k,.int .i64 r.q,.int .i64 r.t,.string r.s,.string r.h,.string r.d]) (.agg #[.int .i64 r.k,.int .i64 r.q,.int .i64 r.t,.string r.s,.string r.h,.string r.d])).run prog W=.ok (.bool false) W:=by
 have u3:=underlying3;have u9:=underlying9;have hS:prog.underlying 73=some (.struct (prog.fieldsOf 73)):=by kernel_rfl
 have hp:prog.stoodInHeld 73=false:=by kernel_rfl
 rw[run_neq_struct,show(10000:Nat)=9999+1 from rfl,anc W 9999 73 _ _ hS hp];simp only[Program.fieldsOf,underlying73];go_simp
theorem aaF (a b:Option Addr)(ca cb:Nat)(l:List Rc)(w:World)(ha:vk w a l)(hb:vk w b l)(dK:l.length<=1000000) :
 Calls prog 22 #[.slice a l.length ca,.slice b l.length cb] w λe w'=>e=.returned (.bool true)/\∃q,w'=w.drewN q:=by
 have Ha:=aj ha;have Hb:=aj hb;clear ha hb;have hm:prog.eqGuardType prog.depth 73=false:=by kernel_rfl
 go_enter func22,ntmps22;go_wp2;go_loopw [13] (λkv wr=>∃(k:Nat),kv=.int .i64 k/\k<=l.length/\∃n,wr=w.drewN n) (λkv _=>l.length-(intOf kv).toNat)
 case atStart=>exact⟨0,rfl,ajm _,0,rfl⟩
 case round =>
  obtain⟨k,rfl,hk,n,rfl⟩:=hrel;by_cases hlt:k<l.length
  ·obtain⟨g,o,rfl,s1⟩:=ah Ha k hlt;obtain⟨h,o2,rfl,s2⟩:=ah Hb k hlt;obtain⟨_,x0,x1,x2,x3,x4,x5⟩:=s1;obtain⟨_,y0,y1,y2,y3,y4,y5⟩:=s2;have hne:=aiL (rc l k);go_wp2;go_quiet (fail)
   go_wp2;exact⟨⟨k+1,by go_num,by omega,_,rfl⟩,by simp[intOf];omega⟩
  ·go_wp2;go_ret;exact⟨rfl,n,rfl⟩
theorem aiM (x0 x1 x2 x3:Int)(W:World):(binOp .neq 60 (.agg #[.int .i64 x0,.int .i64 x1,.int .i64 x2,.int .i64 x3]) (.agg #[.int .i64 x0,.int .i64 x1,.int .i64 x2,.int .i64 x3])).run prog W=.ok (.bool false) W:=by
 have u3:=underlying3;have hS:prog.underlying 60=some (.struct (prog.fieldsOf 60)):=by kernel_rfl
 have hp:prog.stoodInHeld 60=false:=by kernel_rfl
 rw[run_neq_struct,show(10000:Nat)=9999+1 from rfl,anc W 9999 60 _ _ hS hp];simp only[Program.fieldsOf,underlying60];go_simp
theorem adY (r:Rc)(W:World):(binOp .eql 73 (.agg #[.int .i64 r.k,.int .i64 r.q,.int .i64 r.t,.string r.s,.string r.h,.string r.d]) (.agg #[.int .i64 r.k,.int .i64 r.q,.int .i64 r.t,.string r.s,.string r.h,.string r.d])).run prog W=.ok (.bool true) W:=by
 have u3:=underlying3;have u9:=underlying9;have hS:prog.underlying 73=some (.struct (prog.fieldsOf 73)):=by kernel_rfl
 have hp:prog.stoodInHeld 73=false:=by kernel_rfl
 rw[run_eql_struct,show(10000:Nat)=9999+1 from rfl,anc W 9999 73 _ _ hS hp];simp only[Program.fieldsOf,underlying73];go_simp
theorem J5 (f:ByteArray)(o:Option Rc):∃(y:Rc) (E:Int),iG f o=.tuple #[.agg #[.int .i64 y.k,.int .i64 y.q,.int .i64 y.t,.string y.s,.string y.h,.string y.d],.int .i64 E]:=by
 unfold iG;by_cases e:aG true f=0
 ·rw[if_pos e]
  cases o with
  | none=>exact⟨iF,4,rfl⟩
  | some r=>exact⟨r,0,rfl⟩
 ·rw[if_neg e];exact⟨iF,_,rfl⟩
structure af0 (SH:World->Nat->Nat->(Nat->Prop)->aJ->Prop)(w W:World)(B q c:Nat)(F G:Nat->Prop)(s:aJ):Prop where
 sh:SH W B q F s
 ch:qg W B c G s
 ok:s.Ok
 le:B<=W.heap.size
 bl:Below w.heap.size w W
theorem af0.next {SH:World->Nat->Nat->(Nat->Prop)->aJ->Prop}(H:lV SH){w W W':World}{B q c:Nat}{F G:Nat->Prop}{s:aJ}(h:af0 SH w W B q c F G s)(hb:Below W.heap.size W W'):af0 SH w W' B q c F G s :=
 ⟨H.bZ (A:=λ_=>False) h.sh (aH.aA hb) (λ_ _ z=>z),h.ch.below hb,h.ok,aje h.le hb.size,ak h.bl hb⟩
theorem Xb {SH:World->Nat->Nat->(Nat->Prop)->aJ->Prop}(H:lV SH)(HT:lX SH)(HY:Gg SH){w:World}{B q c:Nat}{F G:Nat->Prop}{s:aJ}(f:ByteArray)(n:Int)(hf:f.size<=140737488355328)(h:SH w B q F s)(hc:qg w B c G s)(hk:s.Ok)(hB:B<=w.heap.size) :
 Calls prog 13 #[.pointer (some ⟨q,0,none⟩),.pointer (some ⟨c,0,none⟩),.string f,.int .i64 n] w λe w'=>e=.returned (.bool true)/\Below w.heap.size w w':=by
 have t0:af0 SH w w B q c F G s:=⟨h,hc,hk,hB,ajb _ _⟩;have T0:=aj (t0.next H (ajb _ _).drew);obtain⟨la,lc,d0,_,_,_,sl0,hcl⟩:=hc.read;have hfew:=hk.iW;have hN:=aiM (s.l.length:Int) (bI s.l:Int) (dU s.l) s.last;have hm:prog.eqGuardType prog.depth 60=false:=by kernel_rfl
 have P1:=aj (H.BX (ah T0).sh (ah T0).ok (ah T0).le);have Bf:=aj sl0;clear h hc hk hB t0 sl0;go_enter func13,ntmps13;go_wp2_with fail;go_region_held3 (λw'=>w'.cell? ⟨c,0,none⟩=some (.slice la s.l.length lc)) (first|assumption|go_keep)
  (first
   | (go_at_call 18;refine(ah P1).mono ?_;rintro e w1 ⟨rfl,b1⟩;have T1:=aj ((ah T0).next H b1);have d1:=((ah T1).bl.cell (p:=⟨c,0,none⟩) hcl).trans d0;have P2:=aj (MR (ah T1).ch (ah T1).ok);unfold Z7 at P2;clear b1)
   | (go_at_call 41;refine(ah P2).mono ?_;rintro e w2 ⟨rfl,b2⟩;have T2:=aj ((ah T1).next H b2);have d2:=((ah T2).bl.cell (p:=⟨c,0,none⟩) hcl).trans d0;have P3:=aj (H.all (ah T2).sh (ah T2).ok (ah T2).le);clear b2)
   | (go_at_call 21;refine(ah P3).mono ?_;rintro e w3 ⟨v3,rfl,a3,b3⟩;have T3:=aj ((ah T2).next H b3);have d3:=((ah T3).bl.cell (p:=⟨c,0,none⟩) hcl).trans d0;obtain⟨ra,rcp,rfl,_,_,s3⟩:=a3.shape;have P4:=aj (aaF ra la rcp lc s.l w3 s3 ((ah Bf).below (ah T3).bl) (by omega));clear b3 a3 s3)
   | (go_at_call 22;refine(ah P4).mono ?_;rintro e w4 ⟨rfl,n4,rfl⟩))
 have T4:=aj ((ah T3).next H (below_drewN (ajb _ _) n4));clear P1 P2 P3 P4 T0 T1 T2 T3 d1 d2 d3 d0 Bf hN hm;generalize w3.drewN n4=w4 at *;obtain⟨ga,ge,hga⟩:∃(y:Rc) (E:Int),ZI (Ah s.l n)=.tuple #[.agg #[.int .i64 y.k,.int .i64 y.q,.int .i64 y.t,.string y.s,.string y.h,.string y.d],.int .i64 E]:=⟨_,_,Yp _⟩;obtain⟨gx,ex,hgx⟩:=J5 f (Ai f s.l);obtain⟨gz,ez,hgz⟩:=J5 f (rW f s.l n);obtain⟨es,hes⟩:=(ah T4).ok.cnt;have hfl:(uf es f).length<=100:=by
  unfold uf;have:=hes.jY.2.1;split
  ·exact aje (akB _ _) this
  ·simp
 have HE:=aj hes;clear hes;have P:=aj (HY.ahQ n (ah T4).sh (ah T4).ok (ah T4).le);rw[hga] at P;go_wp2_with fail;refine(ah P).mono ?_;rintro e w5 ⟨rfl,b5⟩;have A5:Below w5.heap.size w5 (w5.alloc (.cells #[.int .i64 ga.k,.int .i64 ga.q,.int .i64 ga.t,.string ga.s,.string ga.h,.string ga.d] 73)):=(ajb _ _).alloc (Xc _) _;have T5:=aj (((ah T4).next H b5).next H A5);have R5:=aj (RB.new w5 ga.k ga.q ga.t ga.s ga.h ga.d 73);clear P T4 b5 A5;have P:=aj (ac2 n (ah T5).ch (ah T5).ok);rw[hga] at P;go_wp2_with fail;refine(ah P).mono ?_;rintro e w6 ⟨rfl,b6⟩
 have A6:Below w6.heap.size w6 (w6.alloc (.cells #[.int .i64 ga.k,.int .i64 ga.q,.int .i64 ga.t,.string ga.s,.string ga.h,.string ga.d] 73)):=(ajb _ _).alloc (Xc _) _;have T6:=aj (((ah T5).next H b6).next H A6);have R5n:=aj (((ah R5).next b6).next A6);have R6:=aj (RB.new w6 ga.k ga.q ga.t ga.s ga.h ga.d 73);clear P T5 b6 A6 R5;have P:=aj (H.last f hf (ah T6).sh (ah T6).ok (ah T6).le);rw[hgx] at P;go_wp2_with fail;refine(ah P).mono ?_;rintro e w7 ⟨rfl,b7⟩;have A7:Below w7.heap.size w7 (w7.alloc (.cells #[.int .i64 gx.k,.int .i64 gx.q,.int .i64 gx.t,.string gx.s,.string gx.h,.string gx.d] 73)):=(ajb _ _).alloc (Xc _) _
 have T7:=aj (((ah T6).next H b7).next H A7);have ah3:=aj (((ah R5n).next b7).next A7);have R6n:=aj (((ah R6).next b7).next A7);have R7:=aj (RB.new w7 gx.k gx.q gx.t gx.s gx.h gx.d 73);clear P T6 b7 A7 R5n R6;have P:=aj (MQ f 0 true hf (ah T7).ch (ah T7).ok);rw[ZY (ah T7).ok f,hgx] at P;go_wp2_with fail;refine(ah P).mono ?_;rintro e w8 ⟨rfl,b8⟩;have A8:Below w8.heap.size w8 (w8.alloc (.cells #[.int .i64 gx.k,.int .i64 gx.q,.int .i64 gx.t,.string gx.s,.string gx.h,.string gx.d] 73)):=(ajb _ _).alloc (Xc _) _;have T8:=aj (((ah T7).next H b8).next H A8)
 have agI:=aj (((ah ah3).next b8).next A8);have ah4:=aj (((ah R6n).next b8).next A8);have R7n:=aj (((ah R7).next b8).next A8);have R8:=aj (RB.new w8 gx.k gx.q gx.t gx.s gx.h gx.d 73);clear P T7 b8 A8 ah3 R6n R7;have P:=aj (H.next f n hf (ah T8).sh (ah T8).ok (ah T8).le);rw[hgz] at P;go_wp2_with fail;refine(ah P).mono ?_;rintro e w9 ⟨rfl,b9⟩;have A9:Below w9.heap.size w9 (w9.alloc (.cells #[.int .i64 gz.k,.int .i64 gz.q,.int .i64 gz.t,.string gz.s,.string gz.h,.string gz.d] 73)):=(ajb _ _).alloc (Xc _) _;have T9:=aj (((ah T8).next H b9).next H A9)
 have adZ:=aj (((ah agI).next b9).next A9);have agJ:=aj (((ah ah4).next b9).next A9);have ah5:=aj (((ah R7n).next b9).next A9);have R8n:=aj (((ah R8).next b9).next A9);have R9:=aj (RB.new w9 gz.k gz.q gz.t gz.s gz.h gz.d 73);clear P T8 b9 A9 agI ah4 R7n R8;have P:=aj (MQ f n false hf (ah T9).ch (ah T9).ok);rw[MP,hgz] at P;go_wp2_with fail;refine(ah P).mono ?_;rintro e w10 ⟨rfl,b10⟩;have A10:Below w10.heap.size w10 (w10.alloc (.cells #[.int .i64 gz.k,.int .i64 gz.q,.int .i64 gz.t,.string gz.s,.string gz.h,.string gz.d] 73)):=(ajb _ _).alloc (Xc _) _
 have T10:=aj (((ah T9).next H b10).next H A10);have YM:=aj (((ah adZ).next b10).next A10);have ad1:=aj (((ah agJ).next b10).next A10);have agK:=aj (((ah ah5).next b10).next A10);have ah6:=aj (((ah R8n).next b10).next A10);have R9n:=aj (((ah R9).next b10).next A10);have R10:=aj (RB.new w10 gz.k gz.q gz.t gz.s gz.h gz.d 73);clear P T9 b10 A10 adZ agJ ah5 R8n R9;have P:=aj (HT.Jz f hf (ah T10).sh (ah T10).ok (ah T10).le (ah HE));go_wp2_with fail;refine(ah P).mono ?_;rintro e w11 ⟨v11,rfl,a11,b11⟩;obtain⟨q11,aiN,rfl,s11⟩:=a11.sl
 have T11:=aj ((ah T10).next H b11);have Uj:=aj ((ah YM).next b11);have YN:=aj ((ah ad1).next b11);have ad2:=aj ((ah agK).next b11);have agL:=aj ((ah ah6).next b11);have ah7:=aj ((ah R9n).next b11);have ah8:=aj ((ah R10).next b11);clear P T10 b11 a11 YM ad1 agK ah6 R9n R10;have P:=aj (KR f hf (ah T11).ch (ah T11).ok (ah HE));go_wp2_with fail;refine(ah P).mono ?_;rintro e w12 ⟨v12,rfl,a12,b12⟩;obtain⟨q12,cp12,rfl,s12⟩:=a12.sl;have T12:=aj ((ah T11).next H b12);have aaG:=aj ((ah Uj).next b12)
 have ad3:=aj ((ah YN).next b12);have af2:=aj ((ah ad2).next b12);have ahn:=aj ((ah agL).next b12);have ah9:=aj ((ah ah7).next b12);have aia:=aj ((ah ah8).next b12);have aiO:=s11.below b12;clear P T11 b12 a12 Uj YN ad2 agL ah7 ah8 s11;obtain⟨_,z00,z01,z02,z03,z04,z05,_⟩:=ah aaG;obtain⟨_,z10,z11,z12,z13,z14,z15,_⟩:=ah ad3;obtain⟨_,z20,z21,z22,z23,z24,z25,_⟩:=ah af2;obtain⟨_,z30,z31,z32,z33,z34,z35,_⟩:=ah ahn;obtain⟨_,z40,z41,z42,z43,z44,z45,_⟩:=ah ah9;obtain⟨_,z50,z51,z52,z53,z54,z55,_⟩:=ah aia
 have P:=aj (Pz q11 q12 aiN cp12 (uf es f) w12 aiO s12 hfl);have hE1:=adY ga;have hE2:=adY gx;have hE3:=adY gz;have hm:prog.eqGuardType prog.depth 73=false:=by kernel_rfl
 go_wp2_with fail;refine(ah P).mono ?_;rintro e w13 ⟨rfl,n13,rfl⟩;clear P;go_wp2_with fail;go_ret;exact⟨by simp,below_drewN (ah T12).bl n13⟩
