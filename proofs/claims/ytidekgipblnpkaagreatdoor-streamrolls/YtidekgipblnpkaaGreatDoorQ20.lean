/- A part of the proof. -/
import Derived.Test.YtidekgipblnpkaaGreatDoorQ10
set_option maxRecDepth 100000
set_option maxHeartbeats 8000000
namespace Go.Proofs.YtidekgipblnpkaaGreatDoor.Dk
open Go Go.Proofs.Tryz
def P0:Pn.aU:=⟨⟨#[115]⟩,[⟨#[97,46,62]⟩],[2,0,0,0,0,0,0,0]⟩
def x0:Po:=⟨⟨#[97,46,98]⟩,⟨#[]⟩,⟨#[]⟩,⟨#[100]⟩,-1,0⟩
theorem ajr:Pn.bG P0=0:=by decide +kernel
def akg:Str:=(aI P0 1000 100 5 x0 ⟨[],⟨[],0⟩,[]⟩).2
def akh:Str:=(aI P0 1000 100 5 x0 akg).2
def adQ:Str:=(aI P0 1000 100 5 x0 akh).2
theorem Xe:(adQ.s.l.length:Int)=2/\(aP adQ.s.l:Int)=8/\cZ adQ.s.l=2/\adQ.s.last=3:=by decide +kernel
theorem adR {p:Pn.aU}{m size now:Int}{x:Po}{st:Str}:st.s.last<=(aI p m size now x st).2.s.last/\(aI p m size now x st).2.s.last<=st.s.last+1:=by
 unfold aI;split
 ·exact⟨Int.le_refl _,by show st.s.last<=st.s.last+1;omega⟩
 ·split
  ·exact⟨Int.le_refl _,by show st.s.last<=st.s.last+1;omega⟩
  ·split
   ·exact⟨Int.le_refl _,by show st.s.last<=st.s.last+1;omega⟩
   ·have hl:=(pU (p:=p) (m:=m) (size:=size) (now:=now) (x:=x) (es:=st.es) (s:=st.s)).2;split
    ·exact⟨by show st.s.last<=(aZ p m size now x st.es st.s).2.2.last;omega,by show(aZ p m size now x st.es st.s).2.2.last<=_;omega⟩
    ·generalize (aZ p m size now x st.es st.s).2.1=es at *;generalize (aZ p m size now x st.es st.s).2.2=s at *;unfold jU;by_cases e:gV es s m size (bQ (s.last+1) now x)=0
     ·rw[if_neg (by rw[e];simp)];have h1:(iM es s m size (bQ (s.last+1) now x)).last=s.last+1:=by rw[uK e]
      split
      ·exact⟨by show st.s.last<=(iM es s m size (bQ (s.last+1) now x)).last;omega,by show(iM es s m size (bQ (s.last+1) now x)).last<=_;omega⟩
      ·split
       ·exact⟨by show st.s.last<=(iM es s m size (bQ (s.last+1) now x)).last;omega,by show(iM es s m size (bQ (s.last+1) now x)).last<=_;omega⟩
       ·rename_i g
        have g:=Classical.not_not.1 g;have h2:(iM (nN es s m size (bQ (s.last+1) now x)) (iM es s m size (bQ (s.last+1) now x)) m size (dS (s.last+1) now (iq x))).last=s.last+1:=by rw[IG g];exact h1
        exact⟨by show st.s.last<=(iM (nN es s m size (bQ (s.last+1) now x)) (iM es s m size (bQ (s.last+1) now x)) m size (dS (s.last+1) now (iq x))).last;omega,by show(iM (nN es s m size (bQ (s.last+1) now x)) (iM es s m size (bQ (s.last+1) now x)) m size (dS (s.last+1) now (iq x))).last<=_;omega⟩
     ·rw[if_pos e];exact⟨by show st.s.last<=s.last;omega,by show s.last<=_;omega⟩
end Go.Proofs.YtidekgipblnpkaaGreatDoor.Dk
namespace Go.Proofs.YtidekgipblnpkaaGreatDoor.Dk
open Go.RowKit Go.Proofs.Tryz
theorem aa9 {w:World}{b o:Nat}{x:Po}(c0:w.cell? ⟨b,o,none⟩=some (.string x.s))(c1:w.cell? ⟨b,o+1,none⟩=some (.string x.i))(c2:w.cell? ⟨b,o+2,none⟩=some (.string x.h))(c3:w.cell? ⟨b,o+3,none⟩=some (.string x.d))(c4:w.cell? ⟨b,o+4,none⟩=some (.int .i64 x.x))(c5:w.cell? ⟨b,o+5,none⟩=some (.int .i64 x.ro)) :
 (loadVar 48 ⟨b,o,none⟩).run prog w=.ok (yw x) w:=by
 have hl:(loadCells ⟨b,o,none⟩ 6).run prog w=.ok #[.string x.s,.string x.i,.string x.h,.string x.d,.int .i64 x.x,.int .i64 x.ro] w :=
  run_loadCells_list (P:=prog) w ⟨b,o,none⟩ [.string x.s,.string x.i,.string x.h,.string x.d,.int .i64 x.x,.int .i64 x.ro] (λj v hv=>by
   rw[Rq];match j,hv with
   | 0,hv=>rw[Nat.add_zero,c0];simpa using hv
   | 1,hv=>rw[c1];simpa using hv
   | 2,hv=>rw[c2];simpa using hv
   | 3,hv=>rw[c3];simpa using hv
   | 4,hv=>rw[c4];simpa using hv
   | 5,hv=>rw[c5];simpa using hv)
 have hz:Tryz.t48.size=6:=by kernel_rfl
 simp[loadVar,isAgg,sizeOf];rw[hz,hl];rfl
theorem Qo {fn:Func}{t:Tmp}{tmps:Array Value}{w:World}{b:Nat}{x:Po}(hf:fn.results=#[.cell t 48])(ha:tmps.getD t undef=.pointer (some ⟨b,0,none⟩))(h:(loadVar 48 ⟨b,0,none⟩).run prog w=.ok (yw x) w) :
 (results fn tmps).run prog w=.ok (yw x) w:=by
 have ha':tmps[t]?.getD undef=.pointer (some ⟨b,0,none⟩):=by simpa using ha
 simp[results,hf,ha',asAddr,h]
theorem adS (s:ByteArray)(w:World) :
 Calls prog 53 #[.string s] w λe w'=>e=.returned (yw ⟨s,⟨#[]⟩,⟨#[]⟩,⟨#[100]⟩,-1,0⟩)/\Below w.heap.size w w':=by
 go_enter func53,ntmps53
 go_wp2_with fail
 refine bodyPost_ret (Qo rfl rfl (aa9 (x:=⟨s,⟨#[]⟩,⟨#[]⟩,⟨#[100]⟩,-1,0⟩) (by simp) (by simp) (by simp) (by simp) (by simp) (by simp))) rfl ?_;exact⟨rfl,(Below.refl _ _).alloc (Nat.le_refl _) _⟩
theorem adT:iE P0:=⟨by decide,λk hk=>by
 have:k=0:=by simp[P0] at hk;omega
 subst this;decide,by decide,rfl⟩
theorem adU:dL x0:=⟨by decide,by decide,by decide,by decide⟩
section
variable {G:World->Prop}{RH:World->Nat->Nat->(Nat->Prop)->Pn.aU->Int->Int->Str->Prop}{SH:World->Nat->Nat->(Nat->Prop)->aG->Prop}
theorem abb (hN:∀{w w':World},G w->Below w.heap.size w w'->G w')(V:aK G RH SH)(w:World)(hG:G w) :
 Calls prog 52 #[] w λe w'=>∃wb p,e=.returned (.pointer (some ⟨p,0,none⟩))/\Below w.heap.size w wb/\pV RH (λ_=>False) wb w' p P0 1000 100 iK:=by
 have b1:Below w.heap.size w (w.alloc (.cells #[.string ⟨#[97,46,62]⟩] 9)):=(Below.refl _ _).alloc (Nat.le_refl _) _;have hsl:jW (w.alloc (.cells #[.string ⟨#[97,46,62]⟩] 9)) (some ⟨w.heap.size,0,none⟩) P0.f:=λk hk=>by
  have:k=0:=by simp[P0] at hk;omega
  subst this;exact⟨w.heap.size,0,rfl,by simp,by simp[P0,tk]⟩
 have PN:=aj (pV.new V (m:=1000) (size:=100) (w.alloc (.cells #[.string ⟨#[97,46,62]⟩] 9)) P0 (some ⟨w.heap.size,0,none⟩) 1 adT hsl (by decide) (hN hG b1) ajr (by decide) (by decide));have HB:=aj b1;clear hsl b1;go_enter func52,ntmps52
 go_wp2_with fail
 refine(ah PN).mono ?_;rintro e w2 ⟨p,rfl,r2⟩;have HR:=aj r2;clear r2 PN;go_wp2_with fail
 go_ret
 exact⟨_,p,rfl,ah HB,ah HR⟩
def adV:Nat->Str
 | 0=>iK
 | k+1=>(aI P0 1000 100 5 x0 (adV k)).2
theorem kY (hN:∀{w w':World},G w->Below w.heap.size w w'->G w')(V:aK G RH SH)(E:jd SH)(w:World)(hG:G w) :
 Calls prog 17 #[] w λe w'=>e=.returned (.bool true)/\Below w.heap.size w w':=by
 have PS:=aj (abb hN V w hG);clear hG;go_enter func17,ntmps17
 go_wp2_with fail
 refine(ah PS).mono ?_;rintro e w1 ⟨wb,p,rfl,b1,r1⟩;have HB:=aj b1;have HR:Hid (pV RH (λ_=>False) wb w1 p P0 1000 100 (adV 0)):=aj r1;clear PS b1 r1;go_wp2_with fail
 go_loopw [5] (λiv wr=>∃(i:Nat),iv=.int .i64 i/\i<=3/\Hid (pV RH (λ_=>False) wb wr p P0 1000 100 (adV i))) (λiv _=>3-(intOf iv).toNat)
 case atStart=>exact⟨0,rfl,by omega,HR⟩
 case round =>
  clear HR;obtain⟨i,rfl,hi,HR⟩:=hrel;by_cases hlt:i<3
  ·have P1:=aj (adS ⟨#[97,46,98]⟩ wr);go_wp2_with fail
   refine(ah P1).mono ?_;rintro e w2 ⟨rfl,b2⟩;have HR2:=aj ((ah HR).below V b2);have P2:=aj ((ah HR2).publish V 5 x0 adU);clear P1 b2 HR;go_wp2_with fail
   refine(ah P2).mono ?_;rintro e w3 ⟨rfl,r3,_⟩;have HR3:Hid (pV RH (λ_=>False) wb w3 p P0 1000 100 (adV (i+1))):=aj r3;clear r3 P2 HR2;go_wp2_with fail
   refine⟨⟨i+1,by go_num,by omega,HR3⟩,?_⟩;simp[intOf];omega
  ·obtain rfl:i=3:=by omega
   have P1:=aj ((ah HR).store V);go_wp2_with fail
   refine(ah P1).mono ?_;rintro e w2 ⟨q,F0,rfl,s2,b2⟩;have HR2:=aj ((ah HR).below V b2);have P2:=aj ((ah HR2).store V);clear P1 s2 b2 HR;go_wp2_with fail
   refine(ah P2).mono ?_;rintro e w3 ⟨q3,F3,rfl,s3,b3⟩;have HR3:=aj ((ah HR2).below V b3);obtain⟨y1,y2,y3,y4⟩:=Xe;have P3:=aj (E.sums s3 (ah HR3).fit.mX.ok (ah HR3).room);rw[show(adV 3).s=adQ.s from rfl,y1,y2,y3,y4] at P3;clear P2 s3 b3 HR2;go_wp2_with fail
   refine(ah P3).mono ?_;rintro e w4 ⟨rfl,b4⟩;have B4:=aj (ak (ah HR3).bl b4);clear P3 b4 HR3;go_wp2_with fail
   go_ret
   exact⟨rfl,ak (ah HB) (ah B4)⟩
end
end Go.Proofs.YtidekgipblnpkaaGreatDoor.Dk
