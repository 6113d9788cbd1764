/- A part. -/
import Derived.Test.YtmhbobnfmncdbaaGreatDoorQ17
import Derived.Test.YtmhbobnfmncdbaaGreatDoorQ20
set_option maxRecDepth 100000
set_option maxHeartbeats 8000000
namespace Go.Proofs.YtmhbobnfmncdbaaGreatDoor
open Go.RowKit Go.Proofs.Tryz
namespace Dk
def SS:Nat->Code->Code
 | 0,c=>c
 | n+1,.seq _ b=>SS n b
 | _+1,c=>c
def Rk (f:Func)(n:Nat):Code:=SS n (f.body.getD .skip)
abbrev Yl (b d tb db:Nat)(t:Tk.bH)(ta:Option Addr)(tc:Nat)(m:Rc)(k:Int)(X:World):Prop:=Tq tb t ta tc X/\X.cell? ⟨db,0,none⟩=some (.int .i64 m.q)/\X.cell? ⟨db,4,none⟩=some (.int .i64 k)/\X.cell? ⟨b,0,none⟩=some (.map (some d))
section
variable {w0 w8:World}{B b d n z K tb db:Nat}{W:uo}{t:Tk.bH}{ta:Option Addr}{tc:Nat}{m:Rc}{cn k lf now:Int}
theorem Rl (h:gJ w8 B b d n z K W)(hc0:aA (aK b d n z) w0 w8)(hK:K<950)(hD:CB w8 db (oz ⟨m.q,m.s,m.d,cn,k,lf⟩))(hT:TB w8 tb t ta tc)(hnf:∀j,aK b d n z j->j≠tb/\j≠db)(oI:lF w8 ta t.bo)(hb5:t.bo.length<=5)(hwt:eU t)(hk1:1<=k/\k<=90)(hq:1<=m.q/\m.q<=1099511627776)(J9:0<=now/\now<=1099511627776)(c1 c2 c3 c5 c7 c9 c10 c11 c12 c13 c14 c15 c16 c17 c18 c19 c20 c21 Zg c23 c24 c25 Zh Zi c28 c29 Zj c31 c32 Zk c34 Zl Zm c37 Zn Zo c40 Zp Zq Zr Zt Zu c46 Zv Zw c49 Zx c51 Zy c53 Zz ZA ZB ZC ZE c59 ZF ZG ZH ZI c64 ZJ ZK ZL ZM ZN c70 ZO c72 ZP ZQ c75 c76 ZR ZT ZU c80 ZV ZW ZX ZY c85 Z7 c87 Z8 Z9 c90 c91 c92 c93 c94 c95 c96 c97 c98 c99 Ux Uy Uz UA UC c105 UD c107 UE c109 UF UG UH UJ UK UL c116 c117 UM c119 UN UO UQ UR c124 UU UW c127 UY UZ c130 c131 U0 U1 U2 U3 U4 U5 c138 c139:Value) :
 Code.wp prog (Rk Tryz.f27 7) (bodyPost prog Tryz.f27 (λe w'=>e=.returned (.bool true)/\gJ w' B b d n z (K+1) {W with due:=fK W.due m.q (now+Tk.aZ t k)}/\aA (aK b d n z) w0 w')) ⟨List.toArray (.pointer (some ⟨b,0,none⟩)::c1::c2::c3::.int .i64 now::c5::.pointer (some ⟨tb,0,none⟩)::c7::.pointer (some ⟨db,0,none⟩)::c9::c10::c11::c12::c13::c14::c15::c16::c17::c18::c19::c20::c21::Zg::c23::c24::c25::Zh::Zi::c28::c29::Zj::c31::c32::Zk::c34::Zl::Zm::c37::Zn::Zo::c40::Zp::Zq::Zr::Zt::Zu::c46::Zv::Zw::c49::Zx::c51::Zy::c53::Zz::ZA::ZB::ZC::ZE::c59::ZF::ZG::ZH::ZI::c64::ZJ::ZK::ZL::ZM::ZN::c70::ZO::c72::ZP::ZQ::c75::c76::ZR::ZT::ZU::c80::ZV::ZW::ZX::ZY::c85::Z7::c87::Z8::Z9::c90::c91::c92::c93::c94::c95::c96::c97::c98::c99::Ux::Uy::Uz::UA::UC::c105::UD::c107::UE::c109::UF::UG::UH::UJ::UK::UL::c116::c117::UM::c119::UN::UO::UQ::UR::c124::UU::UW::c127::UY::UZ::c130::c131::U0::U1::U2::U3::U4::U5::c138::c139::[]),[]⟩ w8:=by
 have hwq:uq m.q:=jO (by omega);obtain⟨V,hV⟩:∃V,Tk.aZ t k=V:=⟨_,rfl⟩;have hwv:=nV hwt.w hwt.b k;have PT:=aj (xW t ta tc k w8.drew oI (by omega) (by omega));rw[hV] at hwv PT ⊢;have hwr:IntKind.i64.wrap (now+V)=now+V:=by rw[IntKind.wrap_i64];omega
 have HS:Hid (∀X,Below w8.heap.size w8 X->Yl b d tb db t ta tc m k X/\∃w9,(Instr.mapUpdate 63 (.map (some d)) (.int .i64 m.q) (.int .i64 (now+V))).run prog X=.ok () w9/\gJ w9 B b d n z (K+1) {W with due:=fK W.due m.q (now+V)}/\aA (aK b d n z) w0 w9/\Yl b d tb db t ta tc m k w9):=aj (λX hX=>by
  obtain⟨w9,r1,r2,r3⟩:=(h.next hX).Ue (by omega) hwq (jO (n:=now+V) (by omega));have r4:=(aA.of_below (A:=aK b d n z) hX).trans r3;have Xt:=hD.aT r4 (λz=>(hnf _ z).2 rfl);exact⟨⟨wM (hT.next hX),(hD.next hX).cell 0 _ rfl,(hD.next hX).cell 4 _ rfl,(h.next hX).c0⟩,w9,r1,r2,hc0.trans r4,wM (hT.same r4.size (λj=>r4.cell (p:=⟨tb,j,none⟩) hT.lt (λz=>(hnf _ z).1 rfl))),Xt.cell 0 _ rfl,Xt.cell 4 _ rfl,r2.c0⟩)
 have hbl:=h.lt;have S0:Yl b d tb db t ta tc m k w8.drew:=(ah HS _ (show Below w8.heap.size w8 w8.drew from(Below.refl _ _).drew)).1;have Bd:=aj (show Below w8.heap.size w8 w8.drew from(Below.refl _ _).drew);clear h hD hT hnf oI hV hc0;conv=>arg 2;whnf
 go_upto_region 14 with fail
 go_region_held_law (Yl b d tb db t ta tc m k) (first|with_reducible assumption|go_keep)
  (first|(go_at_call 60;with_reducible refine(ah PT).mono ?_;rintro e w3 ⟨rfl,b3⟩;obtain⟨S3,w9,hrun,hfin,hst,S9⟩:=ah HS w3 (ay (ah Bd) b3)))
 all_goals
  go_wp2_with fail
  go_ret
  exact⟨rfl,hfin,hst⟩
end
section
variable {w0 w8:World}{B b d n z K tb db:Nat}{W:uo}{t:Tk.bH}{ta:Option Addr}{tc:Nat}{m:Rc}{cn k lf now:Int}
theorem Rq (h:gJ w8 B b d n z K W)(hc0:aA (aK b d n z) w0 w8)(hK:K<950)(hD:CB w8 db (oz ⟨m.q,m.s,m.d,cn,k,lf⟩))(hT:TB w8 tb t ta tc)(hnf:∀j,aK b d n z j->j≠tb/\j≠db)(oI:lF w8 ta t.bo)(hta:∀x,ta=some x->t.bo≠[]->¬aK b d n z x.block)(hb5:t.bo.length<=5)(hwt:eU t)(hk1:1<=k/\k<=90)(hq:1<=m.q/\m.q<=1099511627776)(J9:0<=now/\now<=1099511627776)(hnew:k=1->W.last<m.q)(hag:k≠1->W.due m.q<=now/\t.ack≠0)(c1 c2 c3 c5 c7 c9 c10 c11 c12 c13 c14 c15 c16 c17 c18 c19 c20 c21 Zg c23 c24 c25 Zh Zi c28 c29 Zj c31 c32 Zk c34 Zl Zm c37 Zn Zo c40 Zp Zq Zr Zt Zu c46 Zv Zw c49 Zx c51 Zy c53 Zz ZA ZB ZC ZE c59 ZF ZG ZH ZI c64 ZJ ZK ZL ZM ZN c70 ZO c72 ZP ZQ c75 c76 ZR ZT ZU c80 ZV ZW ZX ZY c85 Z7 c87 Z8 Z9 c90 c91 c92 c93 c94 c95 c96 c97 c98 c99 Ux Uy Uz UA UC c105 UD c107 UE c109 UF UG UH UJ UK UL c116 c117 UM c119 UN UO UQ UR c124 UU UW c127 UY UZ c130 c131 U0 U1 U2 U3 U4 U5 c138 c139:Value) :
 Code.wp prog (Rk Tryz.f27 6) (bodyPost prog Tryz.f27 (λe w'=>e=.returned (.bool true)/\gJ w' B b d n z (K+1) {W with due:=fK W.due m.q (now+Tk.aZ t k),last:=if k=1 then m.q else W.last}/\aA (aK b d n z) w0 w')) ⟨List.toArray (.pointer (some ⟨b,0,none⟩)::c1::c2::c3::.int .i64 now::c5::.pointer (some ⟨tb,0,none⟩)::c7::.pointer (some ⟨db,0,none⟩)::c9::c10::c11::c12::c13::c14::c15::c16::c17::c18::c19::c20::c21::Zg::c23::c24::c25::Zh::Zi::c28::c29::Zj::c31::c32::Zk::c34::Zl::Zm::c37::Zn::Zo::c40::Zp::Zq::Zr::Zt::Zu::c46::Zv::Zw::c49::Zx::c51::Zy::c53::Zz::ZA::ZB::ZC::ZE::c59::ZF::ZG::ZH::ZI::c64::ZJ::ZK::ZL::ZM::ZN::c70::ZO::c72::ZP::ZQ::c75::c76::ZR::ZT::ZU::c80::ZV::ZW::ZX::ZY::c85::Z7::c87::Z8::Z9::c90::c91::c92::c93::c94::c95::c96::c97::c98::c99::Ux::Uy::Uz::UA::UC::c105::UD::c107::UE::c109::UF::UG::UH::UJ::UK::UL::c116::c117::UM::c119::UN::UO::UQ::UR::c124::UU::UW::c127::UY::UZ::c130::c131::U0::U1::U2::U3::U4::U5::c138::c139::[]),[]⟩ w8:=by
 have hwq:uq m.q:=jO (by omega);have d0:w8.cell? ⟨db,0,none⟩=some (.int .i64 m.q):=hD.cell 0 _ rfl;have d4:w8.cell? ⟨db,4,none⟩=some (.int .i64 k):=hD.cell 4 _ rfl;have y3:=h.c3;have y0:=h.c0;have f3:=h.fr 3;have hbl:=h.lt;have t4:=hT.c4;have HR:Hid (∀w9 W9,gJ w9 B b d n z K W9->aA (aK b d n z) w8 w9->CB w9 db (oz ⟨m.q,m.s,m.d,cn,k,lf⟩)/\TB w9 tb t ta tc/\lF w9 ta t.bo):=aj (λw9 W9 _ hc=>⟨hD.aT hc (λz=>(hnf _ z).2 rfl),hT.same hc.size (λj=>hc.cell (p:=⟨tb,j,none⟩) hT.lt (λz=>(hnf _ z).1 rfl)),λj hj=>by
  obtain⟨b',o,e1,e2,e3⟩:=oI j hj;exact⟨b',o,e1,Nat.lt_of_lt_of_le e2 hc.size,by rw[hc.cell (p:=⟨b',o+j,none⟩) e2 (hta ⟨b',o,none⟩ e1 (λz=>by rw[z] at hj;exact absurd hj (Nat.not_lt_zero _)))];exact e3⟩⟩)
 have HB:Hid (∀nq,(Instr.lookup 63 (.map (some d)) (.int .i64 m.q) false).run prog (w8.drewN nq)=.ok (.int .i64 (W.due m.q)) (w8.drewN nq)):=aj (λnq=>(h.next (below_drewN (Below.refl _ _) nq)).due.look hwq);have HW:=aj h;have HW:=aj h;clear h hD hT oI hta;conv=>arg 2;whnf
 go_upto_if 101 with fail
 go_cut [] (λwx=>Hid (gJ wx B b d n z K {W with last:=if k=1 then m.q else W.last}/\aA (aK b d n z) w8 wx))
 case first =>
  by_cases hk:k=1
  ·have e1:(k==1)=true:=by rw[hk];rfl
   have e2:decide (m.q<=W.last)=false:=decide_eq_false (by have:=hnew hk;omega);have N9:Hid (∀X,Below w8.heap.size w8 X->gJ (X.setCell ⟨b,3,none⟩ (.int .i64 m.q)) B b d n z K {W with last:=if k=1 then m.q else W.last}/\aA (aK b d n z) w8 (X.setCell ⟨b,3,none⟩ (.int .i64 m.q))):=aj (λX hX=>by
    obtain⟨q1,q2⟩:=((ah HW).next hX).num (j:=3) (v:=m.q) (.inl ⟨rfl,rfl⟩);rw[if_pos hk];exact⟨q1,(aA.of_below hX).trans q2⟩)
   clear hk hnew hag HB HW HR t4;go_wp2_with fail;go_region
   all_goals
    go_wp2_with fail
    go_meet
    exact aj (ah N9 _ (Below.refl _ _).drew)
  ·have e1:(k==1)=false:=by simpa using hk
   obtain⟨g1,g2⟩:=hag hk;have e2:decide (now<W.due m.q)=false:=decide_eq_false (by omega);have e3:(t.ack==0)=false:=by simpa using g2
   have N9:Hid (∀X,Below w8.heap.size w8 X->gJ X B b d n z K {W with last:=if k=1 then m.q else W.last}/\aA (aK b d n z) w8 X):=aj (λX hX=>by
    rw[if_neg hk];exact⟨(ah HW).next hX,aA.of_below hX⟩)
   have LN:=ah HB;clear hk hnew hag HB HW HR g1 g2;go_wp2_with fail;go_quiet (fail)
   go_wp2_with fail;go_meet
   exact aj (ah N9 _ (below_drewN (Below.refl _ _) nq))
 case rest =>
  obtain⟨g1,g2⟩:=ah hcut;obtain⟨r1,r2,r3⟩:=ah HR _ _ g1 g2;refine(show ∀(a':Act) (w':World),Code.wp prog (Rk Tryz.f27 7) (bodyPost prog Tryz.f27 (λe w'=>e=.returned (.bool true)/\gJ w' B b d n z (K+1) {W with due:=fK W.due m.q (now+Tk.aZ t k),last:=if k=1 then m.q else W.last}/\aA (aK b d n z) w0 w')) a' w'->_ from by assumption) _ _ ?_;exact Rl g1 (hc0.trans g2) hK r1 r2 hnf r3 hb5 hwt hk1 hq J9 _ _ _ _ _ _ _ _ _ _ _ _ _ _ _ _ _ _ _ _ _ _ _ _ _ _ _ _ _ _ _ _ _ _ _ _ _ _ _ _ _ _ _ _ _ _ _ _ _ _ _ _ _ _ _ _ _ _ _ _ _ _ _ _ _ _ _ _ _ _ _ _ _ _ _ _ _ _ _ _ _ _ _ _ _ _ _ _ _ _ _ _ _ _ _ _ _ _ _ _ _ _ _ _ _ _ _ _ _ _ _ _ _ _ _ _ _ _ _ _ _ _ _ _ _ _ _ _ _ _ _ _ _ _ _ _
end
abbrev DvS (b z tb db rb:Nat)(t:Tk.bH)(m:Rc)(cn ct:Int)(X:World):Prop:=X.cell? ⟨tb,1,none⟩=some (.string t.f)/\X.cell? ⟨db,0,none⟩=some (.int .i64 m.q)/\X.cell? ⟨db,1,none⟩=some (.string m.s)/\X.cell? ⟨db,2,none⟩=some (.string m.d)/\X.cell? ⟨db,3,none⟩=some (.int .i64 cn)/\X.cell? ⟨rb,3,none⟩=some (.string m.s)/\X.cell? ⟨rb,5,none⟩=some (.string m.d)/\X.cell? ⟨b,2,none⟩=some (.map (some z))/\X.cell? ⟨b,4,none⟩=some (.int .i64 (ct+1))/\(Instr.lookup 64 (.map (some z)) (.int .i64 m.q) false).run prog X=.ok (.bool false) X
section
variable {SH:World->Nat->Nat->(Nat->Prop)->bD->Prop}{w:World}{B b d n z K Bs q:Nat}{F:Nat->Prop}{s:bD}{W:uo}
theorem xg (H:aQ SH)(Y:mX SH)(h:gJ w B b d n z K W)(hK:K<900)(hs:SH w Bs q F s)(hd:∀j,F j->¬aK b d n z j)(hBs:Bs<=w.heap.size)(hk:s.Ok)(t:Tk.bH)(ta:Option Addr)(tc:Nat)(hts:gZ t)(oI:lF w ta t.bo)(hb5:t.bo.length<=5)(hf0:aB true t.f=0)(hwt:eU t)(hta:∀x,ta=some x->t.bo≠[]->¬aK b d n z x.block)(m:Rc)(k cn lf now:Int)(hr:Right t s W m k now)(hcn:cn=W.cnt+1)(hc0:0<=W.cnt/\W.cnt<=100000)(hk1:1<=k/\k<=90)(J9:0<=now/\now<=1099511627776) :
 Calls prog 27 #[.pointer (some ⟨b,0,none⟩),lU t ta tc,.pointer (some ⟨q,0,none⟩),.agg #[.int .i64 m.q,.string m.s,.string m.d,.int .i64 cn,.int .i64 k,.int .i64 lf],.int .i64 now] w λe w'=>e=.returned (.bool true)/\gJ w' B b d n z (K+2) (Nk t W m.q k now)/\aA (aK b d n z) w w':=by
 obtain⟨w1,hw1⟩:∃w1,w1=w.alloc (oh t ta tc):=⟨_,rfl⟩;obtain⟨w2,hw2⟩:∃w2,w2=w1.alloc (VJ ⟨m.q,m.s,m.d,cn,k,lf⟩):=⟨_,rfl⟩;have b1:Below w.heap.size w w1:=by rw[hw1];exact(Below.refl _ _).alloc (Nat.le_refl _) _
 have b2:Below w1.heap.size w1 w2:=by rw[hw2];exact(Below.refl _ _).alloc (Nat.le_refl _) _
 have hs1:w1.heap.size=w.heap.size+1:=by rw[hw1];simp
 have T1:TB w1 w.heap.size t ta tc:=by rw[hw1];exact TB.new w t ta tc
 have D2:CB w2 (w.heap.size+1) (oz ⟨m.q,m.s,m.d,cn,k,lf⟩):=by rw[hw2,<-hs1];exact CB.new w1 (oz ⟨m.q,m.s,m.d,cn,k,lf⟩) _
 have T2:=T1.next b2;have b12:=ay b1 b2;have W2:=h.next b12;obtain⟨tb,htb⟩:∃tb,tb=w.heap.size:=⟨_,rfl⟩;obtain⟨db,hdb⟩:∃db,db=w.heap.size+1:=⟨_,rfl⟩;rw[<-htb] at T2;rw[<-hdb] at D2;have hfw:∀j,aK b d n z j->j<tb/\j<db:=λj hj=>by have:=(h.own j hj).2;omega
 have c4:=W2.c4;have f4:=W2.fr 4;have hbl:=W2.lt;have hwc:IntKind.i64.wrap (W.cnt+1)=W.cnt+1:=by rw[IntKind.wrap_i64];omega
 -- the count
 obtain⟨w3,hw3⟩:∃w3,w3=w2.setCell ⟨b,4,none⟩ (.int .i64 (W.cnt+1)):=⟨_,rfl⟩;obtain⟨W3,ch3⟩:=W2.num (j:=4) (v:=W.cnt+1) (.inr ⟨rfl,rfl⟩);rw[<-hw3] at W3 ch3;have nf:∀{j},aK b d n z j->j≠tb/\j≠db:=λhj=>by have:=hfw _ hj;omega
 have T3:TB w3 tb t ta tc:=T2.same ch3.size (λj=>ch3.cell (p:=⟨tb,j,none⟩) T2.lt (λz=>(nf z).1 rfl));have D3:=D2.aT ch3 (λz=>(nf z).2 rfl);have hs3:SH w3 Bs q F s:=H.aT (H.aT (A:=λ_=>False) hs (aA.of_below b12) (λ_ _ z=>z)) ch3 hd;have PG:=aj (Y.gets m.q hs3 hk (Nat.le_trans hBs (Nat.le_trans b12.size ch3.size)));rw[hr.get,qQ,show oR (some m)=m from rfl,show oE (some m)=0 from rfl] at PG;have HT3:=aj T3;have HD3:=aj D3;have HW3:=aj W3;have Ym:=aj ((aA.of_below (A:=aK b d n z) b12).trans (ch3.mono (λ_ _ z=>z)));have HR:=aj hr;have Xu:=aj hcn;have QN:Hid (∀X,aA (aK b d n z) w X->lF X ta t.bo):=aj (λX hc j hj=>by
  obtain⟨b',o,e1,e2,e3⟩:=oI j hj;exact⟨b',o,e1,Nat.lt_of_lt_of_le e2 hc.size,by rw[hc.cell (p:=⟨b',o+j,none⟩) e2 (hta ⟨b',o,none⟩ e1 (λz=>by rw[z] at hj;exact absurd hj (Nat.not_lt_zero _)))];exact e3⟩)
 have OU:Hid (∀{j},aK b d n z j->j≠tb/\j≠db):=aj nf;have x0:w3.cell? ⟨db,0,none⟩=some (.int .i64 m.q):=D3.cell 0 _ rfl;have hdl:=D3.lt;have htl:=T3.lt;clear h hs hd W2 W3 ch3 T1 T2 T3 D2 D3 hs3 hfw nf b1 b2 b12 hr hcn;go_enter func27,ntmps27;go_upto_region 1 with fail
 rw[<-hw1];rw[show w1.alloc (.cells #[.int .i64 m.q,.string m.s,.string m.d,.int .i64 cn,.int .i64 k,.int .i64 lf] 47)=w2 from hw2.symm,<-hdb,<-htb];clear hw1 hw2 hs1 htb hdb;go_upto_region 2 with fail
 rw[<-hw3];clear hw3 c4 f4 hbl hwc;go_wp2_with fail;refine(ah PG).mono ?_;rintro e w4 ⟨rfl,b4⟩;clear PG x0;obtain⟨w5,hw5⟩:∃w5,w5=w4.alloc (.cells #[.int .i64 m.k,.int .i64 m.q,.int .i64 m.t,.string m.s,.string m.h,.string m.d] 33):=⟨_,rfl⟩;have b5:Below w4.heap.size w4 w5:=by rw[hw5];exact(Below.refl _ _).alloc (Nat.le_refl _) _
 have R5:CB w5 w4.heap.size (tX m):=by rw[hw5];exact CB.new w4 (tX m) _
 obtain⟨rb,hrb⟩:∃rb,rb=w4.heap.size:=⟨_,rfl⟩;rw[<-hrb] at R5;have Yn:=ay b4 b5;have W5:=(ah HW3).next Yn;have D5:=(ah HD3).next Yn;have T5:=(ah HT3).next Yn;have aax:w3.heap.size<=rb:=by rw[hrb];exact b4.size
 go_upto_region 3 with fail
 rw[<-hw5,<-hrb];clear hw5 hrb;have hm0:=(ah HR).done;have HW5:=aj W5;have hqr:=hk.seq (mY (ah HR).get).1;have hwq:uq m.q:=jO (by omega);have q1:w5.drew.cell? ⟨db,0,none⟩=some (.int .i64 m.q):=D5.cell 0 _ rfl;have PI:=aj (EG (a:=true) (by unfold aF;rw[hf0,je (hk.msg m (mY (ah HR).get).1).2 (hk.msg m (mY (ah HR).get).1).1];have:=(ah HR).takes;unfold lJ at this;simpa using this) w5.drew hts.filt (by have:=(hk.small (mY (ah HR).get).1).1;omega));have HS5:Hid (∀X,Below w5.heap.size w5 X->DvS b z tb db rb t m cn W.cnt X):=aj (λX hX=>⟨(T5.next hX).c1,(D5.next hX).cell 0 _ rfl,(D5.next hX).cell 1 _ rfl,(D5.next hX).cell 2 _ rfl,(D5.next hX).cell 3 _ rfl,(R5.next hX).cell 3 _ rfl,(R5.next hX).cell 5 _ rfl,(W5.next hX).c2,(W5.next hX).c4,(show _=Result.ok (.bool (W.done m.q)) X from(W5.next hX).done.look hwq).trans (by rw[hm0])⟩)
 have S0:DvS b z tb db rb t m cn W.cnt w5.drew:=ah HS5 _ (Below.refl _ _).drew;clear D5 R5 T5 hm0;have Xv:=aj Yn;have hcq:decide (cn≠W.cnt+1)=false:=by rw[ah Xu];simp
 have aac:(cn !=W.cnt+1)=false:=by rw[ah Xu];simp
 go_region_held3 (DvS b z tb db rb t m cn W.cnt) (first|assumption|go_keep)
  (first|(go_at_call 30;refine(ah PI).mono ?_;rintro e w6 ⟨rfl,b6⟩;have B6:=aj (ay (show Below w5.heap.size w5 w5.drew from(Below.refl _ _).drew) b6);have S6:=ah HS5 w6 (ah B6);clear b6))
 -- how often it came
 have hnk:k=W.nth m.q+1:=(ah HR).nth;have hwk:IntKind.i64.wrap (W.nth m.q+1)=W.nth m.q+1:=by rw[IntKind.wrap_i64];omega
 have W6:=(ah HW5).next (ah B6);have D6:=((ah HD3).next (ah Xv)).next (ah B6);have L6:(Instr.lookup 63 (.map (some n)) (.int .i64 m.q) false).run prog w6.drew=.ok (.int .i64 (W.nth m.q)) w6.drew:=(W6.next (Below.refl _ _).drew).nth.im.look hwq;obtain⟨w7,U7,W7,AO⟩:=(W6.next (show Below w6.heap.size w6 w6.drew from(Below.refl _ _).drew)).YK (by omega) hwq (jO (n:=W.nth m.q+1) (by omega)) (by omega);rw[<-hnk] at W7;have x0:w6.drew.cell? ⟨db,0,none⟩=some (.int .i64 m.q):=D6.cell 0 _ rfl;have y1:w6.drew.cell? ⟨b,1,none⟩=some (.map (some n)):=W6.c1;have OB:aA (aK b d n z) w6 w7:=(aA.of_below (show Below w6.heap.size w6 w6.drew from(Below.refl _ _).drew)).trans AO
 have D7:=D6.aT OB (λhj=>(ah OU hj).2 rfl);have T6:=((ah HT3).next (ah Xv)).next (ah B6);have T7:TB w7 tb t ta tc:=T6.same OB.size (λj=>OB.cell (p:=⟨tb,j,none⟩) T6.lt (λhj=>(ah OU hj).1 rfl));have HD7:=aj D7;have Xw:=aj T7;have VQ:=aj W7;have Yo:=aj ((ah Ym).trans (((aA.of_below (ah Xv)).trans (aA.of_below (ah B6))).trans OB));clear hnk W6 D6 W7 AO OB D7 T6 T7 S6 S0 HS5 HW5 PI hcq aac q1;go_upto_region 5 with fail
 go_cut [] (λwx=>wx=w7)
 case first =>
  clear HD7 Xw VQ Yo OU HR B6 Xu;go_region
  all_goals
   go_wp2_with fail
   go_meet
   rfl
 case rest =>
  rw[hcut];clear hcut U7 L6 x0 y1 hwk;have LN:∀nq,(Instr.lookup 63 (.map (some n)) (.int .i64 m.q) false).run prog (w7.drewN nq)=.ok (.int .i64 k) (w7.drewN nq):=λnq=>by
   have:=((ah VQ).next (below_drewN (Below.refl _ _) nq)).nth.im.look hwq;rwa [show({nth:=fK W.nth m.q k,due:=W.due,done:=W.done,last:=W.last,cnt:=W.cnt+1}:uo).nth m.q=k from upd_same _ _ _] at this
  have d0:w7.cell? ⟨db,0,none⟩=some (.int .i64 m.q):=(ah HD7).cell 0 _ rfl;have d4:w7.cell? ⟨db,4,none⟩=some (.int .i64 k):=(ah HD7).cell 4 _ rfl;have t7:=(ah Xw).c7;have y1:=(ah VQ).c1;have hkk:(k !=k)=false:=by simp
  have SV:=(ah HR).most;have hev:decide ((0:Int)<t.mo)=false\/((0:Int)<t.mo/\decide (t.mo<k)=false):=by
   by_cases z:0<t.mo
   ·exact .inr ⟨z,decide_eq_false (by omega)⟩
   ·exact .inl (decide_eq_false z)
  go_upto_region 6 with fail
  go_cut [98] (λv wx=>v=.bool false/\∃nq,wx=w7.drewN nq)
  case first =>
   clear HD7 Xw VQ Yo OU HR B6 Xu Xv SV;rcases hev with z1|⟨z1,z2⟩;all_goals
    go_quiet (fail)
    go_wp2_with fail
    go_meet
    exact⟨rfl,_,rfl⟩
  case rest =>
   obtain⟨rfl,nq,rfl⟩:=hcut;obtain⟨w8,hw8⟩:∃w8,w8=w7.drewN nq:=⟨_,rfl⟩;have b8:Below w7.heap.size w7 w8:=by rw[hw8];exact below_drewN (Below.refl _ _) nq
   rw[<-hw8];clear LN d0 d4 t7 y1 hkk SV hev hw8;have W8:=(ah VQ).next b8;have D8:=(ah HD7).next b8;have T8:=(ah Xw).next b8;have HX8:=aj ((ah Yo).trans (aA.of_below b8));have Xx:=aj D8;have HT8:=aj T8;have HW8:=aj W8;have d0:w8.cell? ⟨db,0,none⟩=some (.int .i64 m.q):=D8.cell 0 _ rfl;have d4:w8.cell? ⟨db,4,none⟩=some (.int .i64 k):=D8.cell 4 _ rfl;have y3:=W8.c3;have y0:=W8.c0;have f3:=W8.fr 3;have hbl:=W8.lt;have t4:=T8.c4;have Xy:=aj (ah QN _ (ah HX8));have hgt:=(ah HR).again;have hnw:=(ah HR).new;clear W8 D8 T8 b8 VQ HD7 Xw Yo d0 d4 y3 y0 f3 hbl t4 B6 Xv HR Xu
   go_upto_if 98 with fail
   go_cut [] (λwx=>wx=w8)
   case first =>
    clear HW8 Xx HT8 HX8 OU Xy hgt hnw QN;go_wp2_with fail;go_meet
    rfl
   case rest =>
    rw[hcut];refine(show ∀(a':Act) (w':World),Code.wp prog (Rk Tryz.f27 6) (bodyPost prog Tryz.f27 (λe w'=>e=.returned (.bool true)/\gJ w' B b d n z (K+2) (Nk t W m.q k now)/\aA (aK b d n z) w w')) a' w'->_ from by assumption) _ _ ?_;exact Rq (ah HW8) (ah HX8) (by omega) (ah Xx) (ah HT8) (λj hj=>ah OU hj) (ah Xy) hta hb5 hwt hk1 hqr J9 hnw hgt _ _ _ _ _ _ _ _ _ _ _ _ _ _ _ _ _ _ _ _ _ _ _ _ _ _ _ _ _ _ _ _ _ _ _ _ _ _ _ _ _ _ _ _ _ _ _ _ _ _ _ _ _ _ _ _ _ _ _ _ _ _ _ _ _ _ _ _ _ _ _ _ _ _ _ _ _ _ _ _ _ _ _ _ _ _ _ _ _ _ _ _ _ _ _ _ _ _ _ _ _ _ _ _ _ _ _ _ _ _ _ _ _ _ _ _ _ _ _ _ _ _ _ _ _ _ _ _ _ _ _ _ _ _ _ _
end
