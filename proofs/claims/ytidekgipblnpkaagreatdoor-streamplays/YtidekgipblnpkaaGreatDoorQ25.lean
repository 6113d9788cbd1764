/- A part. -/
import Derived.Test.YtidekgipblnpkaaGreatDoorQ13
import Derived.Test.YtidekgipblnpkaaGreatDoorQ18
set_option maxRecDepth 100000
set_option maxHeartbeats 8000000
namespace Go.Proofs.YtidekgipblnpkaaGreatDoor
open Go.RowKit Go.Proofs.Tryz
namespace Dk
theorem Jt (a:Act)(v:Value):a.put none v=a:=rfl
theorem wG {w:World}{B c:Nat}{F:Nat->Prop}{s:aJ}(r:Rc)(hr:Small r)(h:qg w B c F s)(hk:s.Ok) :
 Calls prog 75 #[.pointer (some ⟨c,0,none⟩),.agg #[.int .i64 r.k,.int .i64 r.q,.int .i64 r.t,.string r.s,.string r.h,.string r.d]] w λe w'=>e=.returned (.int .i64 (bY s r))/\Below w.heap.size w w':=by
 have hfew:=hk.iW;have ahb:=hk.last;have hsm:∀x∈s.l,x.s.size<=135:=λx hx=>(hk.small hx).1
 have HS:=aj hsm;obtain⟨a,cap,c0,c1,hcap,hcm,hsl,hcl⟩:=h.read;unfold maxLen at hcm;have Bf:=aj hsl;have HC:Hid (w.cell? ⟨c,0,none⟩=some (.slice a s.l.length cap)/\w.cell? ⟨c,1,none⟩=some (.int .i64 s.last)):=aj ⟨c0,c1⟩;have C1:Hid (∀W,Calls prog 116 #[.agg #[.int .i64 r.k,.int .i64 r.q,.int .i64 r.t,.string r.s,.string r.h,.string r.d]] W λe w'=>e=.returned (.int .i64 (dL r))/\Below W.heap.size W w'):=aj (λW=>qG r.k r.q r.t r.s r.h r.d W hr.s hr.h hr.d);have R0:=aj (RB.new w r.k r.q r.t r.s r.h r.d 73);have hb0:=aj (((ajb w.heap.size w).alloc (Xc _) (.cells #[.int .i64 r.k,.int .i64 r.q,.int .i64 r.t,.string r.s,.string r.h,.string r.d] 73)))
 obtain⟨E,hE⟩:∃E,dL r=E:=⟨_,rfl⟩;rw[hE] at C1;have hmm:=@run_makeMap prog;clear h hk hsm hsl c0 c1;by_cases h0:E=0
 ·subst h0;obtain⟨_,x0,x1,x2,x3,x4,x5,_⟩:=ah R0;go_enter func75,ntmps75;go_wp2_with fail;refine(ah C1 _).mono ?_;rintro e w1 ⟨rfl,b1⟩;have R1:=aj ((ah R0).next b1);have B1:=aj (ak (ah hb0) b1);have N1:Hid (∃D,VQ (w1.alloc (.map #[] 0)) w1.heap.size (s.l.take 0) D):=aj ⟨_,VQ.made w1⟩;have L1:=aj (ak (ah B1) ((ajb _ w1).alloc (Xc _) (.map #[] 0)));have hw1:w.heap.size+1<=w1.heap.size:=by have:=b1.size;simp at this;omega
  clear b1 hb0 C1 x0 x1 x2 x3 x4 x5 R0;go_wp2_with fail;go_loopw [7,8] (λtv iv wr=>∃(k:Nat) (b:Bool),iv=.int .i64 k/\tv=.bool b/\k<=s.l.length/\Hid (b=seqB (s.l.take k) r.q)/\Hid (∃D,VQ wr w1.heap.size (s.l.take k) D)/\Hid (Below w.heap.size w wr)/\Hid (RB wr w.heap.size r.k r.q r.t r.s r.h r.d)) (λ_ iv _=>s.l.length-(intOf iv).toNat)
  case atStart=>exact⟨0,false,rfl,rfl,ajm _,aj rfl,N1,L1,aj ((ah R1).alloc _)⟩
  case round =>
   clear N1 L1 R1 B1;obtain⟨k,b,rfl,rfl,hk,HB,⟨D,hN⟩,Hb,HR⟩:=hrel;have hbs:=(ah Hb).size;have c0:=((ah Hb).cell (p:=⟨c,0,none⟩) hcl).trans (ah HC).1;have c1:=((ah Hb).cell (p:=⟨c,1,none⟩) hcl).trans (ah HC).2;obtain⟨_,x0,x1,x2,x3,x4,x5,_⟩:=ah HR;by_cases hlt:k<s.l.length
   ·obtain⟨ga,o,rfl,s6⟩:=ah Bf k hlt;have s7:=s6.below (ah Hb) s6.lt;have hgl:=s6.lt;obtain⟨y,hy⟩:∃y,y=rc s.l k:=⟨_,rfl⟩;have htk:s.l.take (k+1)=s.l.take k++[y]:=by rw[hy,bP hlt];exact ajo hlt
    have hys:y.s.size<=135:=by rw[hy,bP hlt];exact ah HS _ (akk hlt)
    have hsq:=ZJ hlt r.q;rw[<-hy] at s7 hsq;obtain⟨_,y0,y1,y2,y3,y4,y5⟩:=s7;have hym:y.s.size<=maxLen:=by unfold maxLen;omega
    have hkey:=acE hym;obtain⟨n,hrun,hat,_⟩:=hN.own.lookup_int KE underlying175 underlying3 (agx _) hkey;have hn:n=(dQ (s.l.take k) y.s:Int):=by
     have h1:=hN.at' y.s hym;rw[hat] at h1;simpa using h1
    have hcn:dQ (s.l.take k) y.s<=k:=by
     unfold dQ;refine aje (akB _ _) ?_;rw[ajn];omega
    have hwn:IntKind.i64.wrap (n+1)=n+1:=by rw[ajq];omega
    have hwf:(Lit.int .i64 (n+1)).wf=true:=WalkArith.wf_i64 (by omega);have hml:=hN.own.lt;have hlk:(s.l.take k).length<maxLen:=by rw[ajn];unfold maxLen;omega
    have HP:Hid (∀w2,w2.ownsMap prog 9 (plainElem prog 3) w1.heap.size ((s.l.take k).length+1) (D.put (kS y.s) (.lit (.int .i64 (n+1))))->wr.grownBy w2 (some w1.heap.size)->w2.cell? ⟨c,0,none⟩=some (.slice (some ⟨ga,o,none⟩) s.l.length cap)/\w2.cell? ⟨w.heap.size,1,none⟩=some (.int .i64 r.q)/\w2.cell? ⟨ga,o+k*6+1,none⟩=some (.int .i64 y.q)/\(∃D',VQ w2 w1.heap.size (s.l.take (k+1)) D')/\Below w.heap.size w w2/\RB w2 w.heap.size r.k r.q r.t r.s r.h r.d):=aj (λw2 ho hg=>by
     have hc:aH (λk=>k=w1.heap.size) wr w2:=(aH.bH hg).mono (λk _ z=>(ajC z).symm);have e0:=(hc.cell (p:=⟨c,0,none⟩) (show c<wr.heap.size by omega) (show ¬c=w1.heap.size by omega)).trans c0;have e1:=(hc.cell (p:=⟨w.heap.size,1,none⟩) (ah HR).lt (show ¬w.heap.size=w1.heap.size by omega)).trans x1;have e2:=(hc.cell (p:=⟨ga,o+k*6+1,none⟩) (show ga<wr.heap.size by omega) (show ¬ga=w1.heap.size by omega)).trans y1;refine⟨e0,e1,e2,⟨D.put (kS y.s) (.lit (.int .i64 (n+1))),?_⟩,?_,?_⟩
     ·rw[htk];rw[hn] at ho ⊢;exact hN.put y hym ho
     ·exact(ah Hb).trans (hc.below (B:=w.heap.size) (by omega) (λk hk z=>by omega))
     ·exact(ah HR).below (B:=w1.heap.size) (hc.below (by omega) (λk hk z=>by omega)) (by omega))
    have HSq:=aj hsq;have hown:=hN.own;clear hy htk hsq hat hN s6 hn hcn
    cases b with
    | true =>
     go_wp2_with (first
      | (at_mapUpdate;refine alU _ rfl _ _ _ 175 rfl 9 3 KE underlying175 _ w1.heap.size _ _ rfl hown hlk _ _ _ rfl rfl hkey _ [] (plainElem_int underlying3 hwf) ?_;intro w2 hown2 hgrow2;obtain⟨d0,d1,d2,P2⟩:=ah HP w2 hown2 hgrow2;have HP2:=aj P2;clear P2 hown2 hgrow2)
      | go_in)
     have HB2:Hid (true=seqB (s.l.take (k+1)) r.q):=aj (by rw[ah HSq,<-ah HB];rfl);have N2:Hid (∀q,∃D',VQ (w2.drewN q) w1.heap.size (s.l.take (k+1)) D'):=aj (λq=>by obtain⟨D',x⟩:=(ah HP2).1;exact⟨D',x.drewN q⟩);have B2:Hid (∀q,Below w.heap.size w (w2.drewN q)):=aj (λq=>below_drewN (ah HP2).2.1 q);have R2:Hid (∀q,RB (w2.drewN q) w.heap.size r.k r.q r.t r.s r.h r.d):=aj (λq=>(ah HP2).2.2.next (below_drewN (ajb _ _) q));clear HP2 HP HB HSq Hb HR hown hrun hkey;rw[Jt];go_quiet (fail)
     go_wp2_with fail;refine⟨⟨k+1,true,by go_num,rfl,by omega,HB2,aj (ah N2 _),aj (ah B2 _),aj (ah R2 _)⟩,?_⟩;simp[intOf];omega
    | false =>
     cases hq:(y.q==r.q) with
     | true =>
      go_wp2_with (first
       | (at_mapUpdate;refine alU _ rfl _ _ _ 175 rfl 9 3 KE underlying175 _ w1.heap.size _ _ rfl hown hlk _ _ _ rfl rfl hkey _ [] (plainElem_int underlying3 hwf) ?_;intro w2 hown2 hgrow2;obtain⟨d0,d1,d2,P2⟩:=ah HP w2 hown2 hgrow2;have HP2:=aj P2;clear P2 hown2 hgrow2)
       | go_in)
      have HB2:Hid (true=seqB (s.l.take (k+1)) r.q):=aj (by rw[ah HSq,<-ah HB,ajg (by simpa using hq)];rfl);have N2:Hid (∀q,∃D',VQ (w2.drewN q) w1.heap.size (s.l.take (k+1)) D'):=aj (λq=>by obtain⟨D',x⟩:=(ah HP2).1;exact⟨D',x.drewN q⟩);have B2:Hid (∀q,Below w.heap.size w (w2.drewN q)):=aj (λq=>below_drewN (ah HP2).2.1 q);have R2:Hid (∀q,RB (w2.drewN q) w.heap.size r.k r.q r.t r.s r.h r.d):=aj (λq=>(ah HP2).2.2.next (below_drewN (ajb _ _) q));clear HP2 HP HB HSq Hb HR hown hrun hkey;rw[Jt];go_quiet (fail)
      go_wp2_with fail;refine⟨⟨k+1,true,by go_num,rfl,by omega,HB2,aj (ah N2 _),aj (ah B2 _),aj (ah R2 _)⟩,?_⟩;simp[intOf];omega
     | false =>
      go_wp2_with (first
       | (at_mapUpdate;refine alU _ rfl _ _ _ 175 rfl 9 3 KE underlying175 _ w1.heap.size _ _ rfl hown hlk _ _ _ rfl rfl hkey _ [] (plainElem_int underlying3 hwf) ?_;intro w2 hown2 hgrow2;obtain⟨d0,d1,d2,P2⟩:=ah HP w2 hown2 hgrow2;have HP2:=aj P2;clear P2 hown2 hgrow2)
       | go_in)
      have HB2:Hid (false=seqB (s.l.take (k+1)) r.q):=aj (by rw[ah HSq,<-ah HB,ajd (by simpa using hq)];rfl);have N2:Hid (∀q,∃D',VQ (w2.drewN q) w1.heap.size (s.l.take (k+1)) D'):=aj (λq=>by obtain⟨D',x⟩:=(ah HP2).1;exact⟨D',x.drewN q⟩);have B2:Hid (∀q,Below w.heap.size w (w2.drewN q)):=aj (λq=>below_drewN (ah HP2).2.1 q);have R2:Hid (∀q,RB (w2.drewN q) w.heap.size r.k r.q r.t r.s r.h r.d):=aj (λq=>(ah HP2).2.2.next (below_drewN (ajb _ _) q));clear HP2 HP HB HSq Hb HR hown hrun hkey;rw[Jt];go_quiet (fail)
      go_wp2_with fail;refine⟨⟨k+1,false,by go_num,rfl,by omega,HB2,aj (ah N2 _),aj (ah B2 _),aj (ah R2 _)⟩,?_⟩;simp[intOf];omega
   ·obtain rfl:k=s.l.length:=by omega
    have HB2:Hid (b=seqB s.l r.q):=aj (by have:=ah HB;rw[ajN] at this;exact this);have hN2:=hN;rw[ajN] at hN2;have hrm:r.s.size<=maxLen:=by have:=hr.s;unfold maxLen;omega
    obtain⟨n,hn⟩:∃n:Int,n=(dQ s.l r.s:Int):=⟨_,rfl⟩;have HX:Hid (∀q,(Instr.lookup 175 (.map (some w1.heap.size)) (.string r.s) false).run prog (wr.drewN q)=.ok (.int .i64 n) (wr.drewN q)/\∀ty,(Builtin.len_ #[175] ty #[.map (some w1.heap.size)]).run prog (wr.drewN q)=.ok (.int .i64 (dP s.l:Int)) (wr.drewN q)):=aj (λq=>by
     have hq:=hN2.drewN q;obtain⟨m,h1,h2,_⟩:=hq.own.lookup_int KE underlying175 underlying3 (agx _) (acE hrm);have h3:=hq.at' r.s hrm;rw[h2] at h3;have h4:m=n:=by rw[hn];simpa using h3
     rw[h4] at h1;exact⟨h1,λty=>by rw[hq.own.len underlying175 ty,hq.size]⟩)
    have HT:Hid (bY s r=if r.k=2/\seqB s.l r.q=false then 4 else if r.k≠1 then 0 else if r.q<=s.last then 9 else if 200<=s.l.length\/(fJ s.l r.s=false/\100<=dP s.l) then 8 else 0):=aj (by unfold bY;rw[hE,if_neg (by simp)]);have HH:Hid (fJ s.l r.s=decide (0<n)):=aj (by rw[nO,hn];simp);have hn0:0<=n:=by rw[hn];omega
    clear hN hN2 hn HB HR;by_cases k2:r.k=2
    ·have e2:(r.k==2)=true:=by simpa using k2
     have e1:(r.k !=1)=true:=by simp[k2]
     cases b with
     | false =>
      have fE:Hid (bY s r=4):=aj (by rw[ah HT,if_pos ⟨k2,(ah HB2).symm⟩]);go_wp2_with fail;go_ret;rw[ah fE];exact⟨rfl,ah Hb⟩
     | true =>
      have fE:Hid (bY s r=0):=aj (by rw[ah HT,if_neg (by rw[<-ah HB2];simp),if_pos (by omega)]);go_wp2_with fail;go_ret;rw[ah fE];exact⟨rfl,ah Hb⟩
    ·have e2:(r.k==2)=false:=by simpa using k2
     by_cases k1:r.k=1
     ·have e1:(r.k !=1)=false:=by simp[k1]
      have HT2:Hid (bY s r=if r.q<=s.last then 9 else if 200<=s.l.length\/(fJ s.l r.s=false/\100<=dP s.l) then 8 else 0):=aj (by rw[ah HT,if_neg (λz=>k2 z.1),if_neg (by omega)]);by_cases hq:r.q<=s.last
      ·have fE:Hid (bY s r=9):=aj (by rw[ah HT2,if_pos hq]);have hd:decide (r.q<=s.last)=true:=ajg hq;have B2:Hid (∀q,Below w.heap.size w (wr.drewN q)):=aj (λq=>below_drewN (ah Hb) q);go_wp2_with fail;go_quiet (fail)
       go_wp2_with fail;go_ret;rw[ah fE];exact⟨rfl,ah B2 _⟩
      ·have hd:decide (r.q<=s.last)=false:=ajd hq;have HT3:Hid (bY s r=if 200<=s.l.length\/(fJ s.l r.s=false/\100<=dP s.l) then 8 else 0):=aj (by rw[ah HT2,if_neg hq]);have B2:Hid (∀q,Below w.heap.size w (wr.drewN q)):=aj (λq=>below_drewN (ah Hb) q);by_cases h2:200<=s.l.length
       ·have fE:Hid (bY s r=8):=aj (by rw[ah HT3,if_pos (.inl h2)]);have hd2:decide ((200:Int)<=(s.l.length:Int))=true:=ajg (by omega);go_wp2_with fail;go_quiet (fail)
        obtain⟨z1,z2⟩:=ah HX nq;go_wp2_with fail;go_ret;rw[ah fE];exact⟨rfl,ah B2 _⟩
       ·have hd2:decide ((200:Int)<=(s.l.length:Int))=false:=ajd (by omega);by_cases h3:n=0
        ·have HT4:Hid (bY s r=if 100<=dP s.l then 8 else 0):=aj (by
          rw[ah HT3];by_cases z:100<=dP s.l
          ·rw[if_pos (.inr ⟨by rw[ah HH,h3];rfl,z⟩),if_pos z]
          ·rw[if_neg (by omega),if_neg z])
         have hd3:(n==0)=true:=by simpa using h3
         by_cases h4:100<=dP s.l
         ·have fE:Hid (bY s r=8):=aj (by rw[ah HT4,if_pos h4]);have hd4:decide ((100:Int)<=(dP s.l:Int))=true:=ajg (by omega);go_wp2_with fail;go_quiet (fail)
          obtain⟨z1,z2⟩:=ah HX nq;go_wp2_with fail;go_ret;rw[ah fE];exact⟨rfl,ah B2 _⟩
         ·have fE:Hid (bY s r=0):=aj (by rw[ah HT4,if_neg h4]);have hd4:decide ((100:Int)<=(dP s.l:Int))=false:=ajd (by omega);go_wp2_with fail;go_quiet (fail)
          obtain⟨z1,z2⟩:=ah HX nq;go_wp2_with fail;go_ret;rw[ah fE];exact⟨rfl,ah B2 _⟩
        ·have fE:Hid (bY s r=0):=aj (by
          rw[ah HT3,if_neg];rintro (z|⟨z,_⟩)
          ·exact h2 z
          ·rw[ah HH,ajg (by omega)] at z;cases z)
         have hd3:(n==0)=false:=by simpa using h3
         go_wp2_with fail;go_quiet (fail)
         obtain⟨z1,z2⟩:=ah HX nq;go_wp2_with fail;go_ret;rw[ah fE];exact⟨rfl,ah B2 _⟩
     ·have e1:(r.k !=1)=true:=by simpa using k1
      have fE:Hid (bY s r=0):=aj (by rw[ah HT,if_neg (λz=>k2 z.1),if_pos k1]);go_wp2_with fail;go_ret;rw[ah fE];exact⟨rfl,ah Hb⟩
 ·have HR:Hid (bY s r=E):=aj (by unfold bY;rw[hE,if_pos h0]);have h1:(E !=0)=true:=by simpa using h0
  obtain⟨_,x0,x1,x2,x3,x4,x5,_⟩:=ah R0;clear hE;go_enter func75,ntmps75;go_wp2_with fail;refine(ah C1 _).mono ?_;rintro e w1 ⟨rfl,b1⟩;have B1:=aj (ak (ah hb0) b1);clear b1 hb0 C1 x0 x1 x2 x3 x4 x5 R0;go_wp2_with fail;go_ret;rw[ah HR];exact⟨rfl,ah B1⟩
theorem sF {P:Program}{ops:Array Oper}{o:Oper}{a:Act}{w:World}{K:Act->World->Prop}{Q:Exit->Act->World->Prop}{E:Prop}
 (hg:o.guard=none) (d x:Operand) (dT sT:TypeId) (hop:o.op=Op.call {callee:=Callee.builtin Builtin.append,args:=#[d,x],argTypes:=#[dT,sT]})
 (v u:Value) (hd:a.eval d=v) (hx:a.eval x=u) {v':Value} {w':World} (hr:(Builtin.append_ #[dT,sT] o.type #[v,u]).run P w=.ok v' w') (hK:K (a.put o.dst v') w') :
 if Region.wanted o (yielded ops a.tmps)=true then Oper.wp P o a w K Q else E:=by
 have hw:Region.wanted o (yielded ops a.tmps)=true:=by simp[Region.wanted,hg]
 rw[if_pos hw];unfold Oper.wp;simp[execOp,hop,resolve,invoke,builtin,hd,hx,hr,Result.andThen];exact hK
theorem tZ.below {w w':World}{B c:Nat}{F:Nat->Prop}{s:aJ}(h:qg w B c F s)(hb:Below w.heap.size w w'):tZ qg w w' B c F s:=⟨F,h.below hb,aH.aA hb,λ_ hk=>.inl hk⟩
def iM (r:Rc):Obj:=.cells #[.int .i64 r.k,.int .i64 r.q,.int .i64 r.t,.string r.s,.string r.h,.string r.d] 73
theorem acY {w w1:World}{B c:Nat}{F:Nat->Prop}{s:aJ}(h:qg w1 B c F s)(hb:Below w.heap.size w w1)(r:Rc)(hl:s.l.length<=200000)(hB:B<=w1.heap.size) :
 ∃a n cp a' n' cp' w8,w1.cell? ⟨c,0,none⟩=some (.slice a n cp)/\(Builtin.append_ #[39,39] 39 #[.slice a n cp,.slice (some ⟨w1.heap.size,0,none⟩) 1 1]).run prog (w1.alloc (iM r))=.ok (.slice a' n' cp') w8/\w8.cell? ⟨c,0,none⟩=some (.slice a n cp)/\w8.frozen? ⟨c,0,none⟩=false/\w8.frozen? ⟨c,1,none⟩=false/\w8.cell? ⟨c,1,none⟩=some (.int .i64 s.last)/\Below w1.heap.size w1 (w1.alloc (iM r))/\(∀k,k<w1.heap.size->¬F k->w8.heap[k]?=w1.heap[k]?)/\tZ qg w ((w8.setCell ⟨c,0,none⟩ (.slice a' n' cp')).setCell ⟨c,1,none⟩ (.int .i64 r.q)) B c F ⟨s.l++[r],r.q⟩:=by
 obtain⟨v,h1,h2,h3,h4,h5,h6,h7,h8⟩:=h;have hb7:Below w1.heap.size w1 (w1.alloc (iM r)):=(ajb _ _).alloc (Xc _) _;have h67:=h6.below hb7;obtain⟨v8,w8,hrun,A8,C8,L8⟩:=iQ (w1.alloc (iM r)) B 39 v s.l [r] h67 ⟨w1.heap.size,0,none⟩ 1 (qB w1 r) (by simp;omega) (aje hB hb7.size);obtain⟨a,cp,rfl,_⟩:=h6.shape;obtain⟨a',cp',hv8,_⟩:=A8.shape;obtain⟨n',hn'⟩:∃n',n'=(s.l++[r]).length:=⟨_,rfl⟩;rw[<-hn'] at hv8;subst hv8;have hc7:c<(w1.alloc (iM r)).heap.size:=by have:=h1.2;simp;omega
 have e0:w8.cell? ⟨c,0,none⟩=some (.slice a s.l.length cp):=by rw[C8.cell (p:=⟨c,0,none⟩) hc7 h7,hb7.cell (p:=⟨c,0,none⟩) h1.2];exact h2
 have e1:w8.cell? ⟨c,1,none⟩=some (.int .i64 s.last):=by rw[C8.cell (p:=⟨c,1,none⟩) hc7 h7,hb7.cell (p:=⟨c,1,none⟩) h1.2];exact h3
 have f0:w8.frozen? ⟨c,0,none⟩=false:=by rw[C8.frozen (p:=⟨c,0,none⟩) hc7 h7,hb7.frozen (p:=⟨c,0,none⟩) h1.2];exact h4
 have f1:w8.frozen? ⟨c,1,none⟩=false:=by rw[C8.frozen (p:=⟨c,1,none⟩) hc7 h7,hb7.frozen (p:=⟨c,1,none⟩) h1.2];exact h5
 have hout:∀k,k<w1.heap.size->¬F k->w8.heap[k]?=w1.heap[k]?:=λk hk hn=>by
  rw[C8.block k (by simp;omega) (λz=>hn ((h8 k).2 (.inr z))),hb7.block k hk]
 have hc8:c<w8.heap.size:=ajc hc7 C8.size;have hnc:(Value.slice a' n' cp').ownBlock≠some c:=λz=>by
  rcases L8 c z with y|y
  ·exact h7 y
  ·have:=h1.2;simp at y;omega
 have hS:aH (λk=>k=c) w8 ((w8.setCell ⟨c,0,none⟩ (.slice a' n' cp')).setCell ⟨c,1,none⟩ (.int .i64 r.q)) :=
  (aH.setCell (A:=λk=>k=c) (p:=⟨c,0,none⟩) (aH.refl _ _) (.inl rfl) _).trans (aH.setCell (A:=λk=>k=c) (p:=⟨c,1,none⟩) (aH.refl _ _) (.inl rfl) _)
 have hFc:F c:=(h8 c).2 (.inl rfl);refine⟨a,s.l.length,cp,a',n',cp',w8,h2,hrun,e0,f0,f1,e1,hb7,hout,λk=>k=c\/(Value.slice a' n' cp').ownBlock=some k,⟨.slice a' n' cp',⟨h1.1,ajc hc8 hS.size⟩,?_,?_,?_,?_,A8.bZ hS (λg hg z=>hnc (by rw[hg,z])),hnc,λk=>amq⟩,?_,λk hk=>?_⟩
 ·rw[aji _ _ _ _ (by simp)];exact ajL _ _ _ (by rw[e0])
 ·exact ajL _ _ _ (by rw[aji _ _ _ _ (by simp),e1])
 ·rw[ajt,ajt];exact f0
 ·rw[ajt,ajt];exact f1
 ·exact(((aH.aA (A:=F) hb).trans (aH.aA hb7)).more C8 (λi _ z=>(h8 i).2 (.inr z))).more hS (λi _ z=>by subst z;exact hFc)
 ·rcases hk with y|y
  ·subst y;exact .inl hFc
  ·rcases L8 k y with x|x
   ·exact .inl ((h8 k).2 (.inr x))
   ·exact .inr (by have:=hb.size;simp at x;omega)
theorem V9 {w:World}{B c:Nat}{F:Nat->Prop}{s:aJ}(r:Rc)(hr:Small r)(h:qg w B c F s)(hk:s.Ok){E:Int}(hE:bY s r=E)(h0:E≠0) :
 Calls prog 78 #[.pointer (some ⟨c,0,none⟩),.agg #[.int .i64 r.k,.int .i64 r.q,.int .i64 r.t,.string r.s,.string r.h,.string r.d]] w λe w'=>e=.returned (.int .i64 E)/\tZ qg w w' B c F s:=by
 have hb0:=(((ajb w.heap.size w).alloc (Xc _) (iM r)));have PT:=aj (wG r hr (h.below hb0) hk);rw[hE] at PT;have HH:=aj h;have B0:=aj hb0;obtain⟨_,x0,x1,x2,x3,x4,x5,_⟩:=RB.new w r.k r.q r.t r.s r.h r.d 73;have h1:(E !=0)=true:=by simpa using h0
 unfold iM at PT B0;clear h hk hE hb0;go_enter func78,ntmps78;go_wp2_with fail;refine(ah PT).mono ?_;rintro e w1 ⟨rfl,b1⟩;have B1:=aj (ak (ah B0) b1);clear b1 PT B0 x0 x1 x2 x3 x4 x5;go_wp2_with fail;go_ret;exact⟨rfl,tZ.below (ah HH) (ah B1)⟩
theorem Wh {w:World}{B c:Nat}{F:Nat->Prop}{s:aJ}(r:Rc)(hr:Small r)(h:qg w B c F s)(hk:s.Ok)(hB:B<=w.heap.size)(hE:bY s r=0)(h1:r.k=1) :
 Calls prog 78 #[.pointer (some ⟨c,0,none⟩),.agg #[.int .i64 r.k,.int .i64 r.q,.int .i64 r.t,.string r.s,.string r.h,.string r.d]] w λe w'=>e=.returned (.int .i64 0)/\tZ qg w w' B c F ⟨s.l++[r],r.q⟩:=by
 have hfew:=hk.iW;have hb0:=(((ajb w.heap.size w).alloc (Xc _) (iM r)));have PT:=aj (wG r hr (h.below hb0) hk);rw[hE] at PT;have hcl:c<w.heap.size:=by obtain⟨_,x,_⟩:=h;exact x.2
 have R0:=aj (RB.new w r.k r.q r.t r.s r.h r.d 73);obtain⟨_,x0,x1,x2,x3,x4,x5,_⟩:=ah R0;have HX:Hid (∀w1,Below w.heap.size w w1->∃a n cp a' n' cp' w8,w1.cell? ⟨c,0,none⟩=some (.slice a n cp)/\(Builtin.append_ #[39,39] 39 #[.slice a n cp,.slice (some ⟨w1.heap.size,0,none⟩) 1 1]).run prog (w1.alloc (iM r))=.ok (.slice a' n' cp') w8/\w8.cell? ⟨c,0,none⟩=some (.slice a n cp)/\w8.frozen? ⟨c,0,none⟩=false/\w8.frozen? ⟨c,1,none⟩=false/\w8.cell? ⟨c,1,none⟩=some (.int .i64 s.last)/\(∀k,k<w1.heap.size->¬F k->w8.heap[k]?=w1.heap[k]?)/\tZ qg w ((w8.setCell ⟨c,0,none⟩ (.slice a' n' cp')).setCell ⟨c,1,none⟩ (.int .i64 r.q)) B c F ⟨s.l++[r],r.q⟩):=aj (λw1 hb1=>by
  obtain⟨a,n,cp,a',n',cp',w8,y1,y2,y3,y4,y5,y6,_,y8,y9⟩:=acY (h.below hb1) hb1 r (by omega) (aje hB hb1.size);exact⟨a,n,cp,a',n',cp',w8,y1,y2,y3,y4,y5,y6,y8,y9⟩)
 have HF:Hid (¬F w.heap.size):=aj (λz=>by have:=(h.own _ z).2;omega);have B0:=aj hb0;unfold iM at PT B0;have H1:=aj h1;clear h hk hE hb0 h1;go_enter func78,ntmps78;go_wp2_with fail;refine(ah PT).mono ?_;rintro e w1 ⟨rfl,b1⟩;have b2:=(ak (ah B0) b1).drew;have R1:=((ah R0).next b1).drew;obtain⟨a,n,cp,a',n',cp',w8,y1,y2,y3,y4,y5,y6,y8,y9⟩:=ah HX w1.drew b2;have q1:w8.cell? ⟨w.heap.size,1,none⟩=some (.int .i64 r.q):=(akD (w:=w1.drew) (y8 w.heap.size R1.lt (ah HF))).trans R1.c1;have Y9:=aj y9;have y1':w1.cell? ⟨c,0,none⟩=some (.slice a n cp):=y1
 obtain⟨_,z0,z1,z2,z3,z4,z5,_⟩:=(ah R0).next b1;have k1:(r.k==1)=true:=by simpa using ah H1
 have y2':(Builtin.append_ #[39,39] 39 #[.slice a n cp,.slice (some ⟨w1.heap.size,0,none⟩) 1 1]).run prog (w1.alloc (iM r)).drew=.ok (.slice a' n' cp') w8:=y2;have afD:(w1.alloc (iM r)).cell? ⟨c,0,none⟩=some (.slice a n cp):=by rw[aku _ _ _ (show c<w1.heap.size from ajc hcl (ak (ah B0) b1).size)];exact y1
 unfold iM at y2' afD;have Y2:=aj y2';clear b1 b2 y2 y2' y9 HX PT B0 x0 x1 x2 x3 x4 x5 y8 R0;go_wp2_with fail;go_region_law (refine sF rfl _ _ 39 39 rfl (.slice a n cp) _ (by simp[Act.eval]) (by simp[Act.eval]) (ah Y2) ?_)
 all_goals clear Y2 y1 y1' afD z0 z1 z2 z3 z4 z5
 all_goals go_wp2_with fail
 all_goals go_ret
 all_goals exact⟨rfl,ah Y9⟩
theorem Ti {w:World}{B c:Nat}{F:Nat->Prop}{s:aJ}(r:Rc)(hr:Small r)(h:qg w B c F s)(hk:s.Ok)(hE:bY s r=0)(h4:r.k=4) :
 Calls prog 78 #[.pointer (some ⟨c,0,none⟩),.agg #[.int .i64 r.k,.int .i64 r.q,.int .i64 r.t,.string r.s,.string r.h,.string r.d]] w λe w'=>e=.returned (.int .i64 0)/\tZ qg w w' B c F ⟨s.l,max s.last r.q⟩:=by
 have hb0:=(((ajb w.heap.size w).alloc (Xc _) (iM r)));have PT:=aj (wG r hr (h.below hb0) hk);rw[hE] at PT;have R0:=aj (RB.new w r.k r.q r.t r.s r.h r.d 73);obtain⟨_,x0,x1,x2,x3,x4,x5,_⟩:=ah R0;have HX:Hid (∀w1,Below w.heap.size w w1->w1.cell? ⟨c,1,none⟩=some (.int .i64 s.last)/\w1.frozen? ⟨c,1,none⟩=false/\tZ qg w (w1.setCell ⟨c,1,none⟩ (.int .i64 (max s.last r.q))) B c F ⟨s.l,max s.last r.q⟩):=aj (λw1 hb1=>by
  obtain⟨v,y1,y2,y3,y4,y5,y6,y7,y8⟩:=h.below hb1;have hS:aH (λk=>k=c) w1 (w1.setCell ⟨c,1,none⟩ (.int .i64 (max s.last r.q))):=aH.setCell (A:=λk=>k=c) (p:=⟨c,1,none⟩) (aH.refl _ _) (.inl rfl) _;refine⟨y3,y5,F,⟨v,⟨y1.1,ajc y1.2 hS.size⟩,?_,?_,?_,?_,y6.bZ hS (λg hg z=>y7 (by rw[hg,z])),y7,y8⟩,(aH.aA (A:=F) hb1).more hS (λi _ z=>by subst z;exact(y8 i).2 (.inl rfl)),λ_ hk=>.inl hk⟩
  ·rw[aji _ _ _ _ (by simp)];exact y2
  ·exact ajL _ _ _ (by rw[y3])
  ·rw[ajt];exact y4
  ·rw[ajt];exact y5)
 have B0:=aj hb0;unfold iM at PT B0;have H4:=aj h4;clear h hk hE hb0 h4;go_enter func78,ntmps78;go_wp2_with fail;refine(ah PT).mono ?_;rintro e w1 ⟨rfl,b1⟩;obtain⟨y1,y2,y3⟩:=ah HX w1.drew (ak (ah B0) b1).drew;have Y3:=aj y3;have y1':w1.cell? ⟨c,1,none⟩=some (.int .i64 s.last):=y1;have y2':w1.frozen? ⟨c,1,none⟩=false:=y2;obtain⟨_,z0,z1,z2,z3,z4,z5,_⟩:=(ah R0).next b1;have k1:(r.k==1)=false:=by simp[ah H4]
 have k4:(r.k==4)=true:=by simpa using ah H4
 clear b1 y3 HX PT B0 x0 x1 x2 x3 x4 x5 R0;go_wp2_with fail;go_region
 all_goals go_wp2_with fail
 all_goals go_ret
 all_goals exact⟨rfl,ah Y3⟩
theorem O1 {r:Rc}(h:dL r=0)(h1:r.k=1):aG false r.s=0:=by
 have e:=xM r.k r.q r.t r.s r.h r.d;have e2:jB r.k r.q r.t r.s r.h r.d=0:=h;rw[e2] at e;by_cases hb:Pk.QB r.k r.q r.t=false
 ·rw[if_pos hb] at e;cases e
 ·rw[if_neg hb,if_pos h1] at e;unfold KI at e;by_cases z:aG false r.s≠0
  ·rw[if_pos z] at e;exact e.symm
  ·exact aju z
theorem afE {r:Rc}(h:dL r=0)(h1:r.k=3):aG true r.s=0:=by
 have e:=xM r.k r.q r.t r.s r.h r.d;have e2:jB r.k r.q r.t r.s r.h r.d=0:=h;rw[e2] at e;by_cases hb:Pk.QB r.k r.q r.t=false
 ·rw[if_pos hb] at e;cases e
 ·rw[if_neg hb,if_neg (by omega),if_pos h1] at e;unfold KJ at e;by_cases z:aG true r.s≠0
  ·rw[if_pos z] at e;exact e.symm
  ·exact aju z
theorem Ju {f s:ByteArray}(hs:aG false s=0):jo (Pl.aI f) (Pl.aI s)=mX f s:=by
 unfold mX;exact tK _ _ (λt ht=>(jg hs t ht).1)
theorem sG {dD:Bool}{s:ByteArray}(h:aG dD s=0):(Pl.ig s.data.toList).length<=1099511627776:=by
 have:=iW h;rw[<-Pl.aU];omega
theorem acZ {w wr:World}{B:Nat}{ov:Value}{out:List Rc}(h:aT wr B ov out)(hb:Below B w wr)(r:Rc)(hl:out.length<=200000)(hB:B<=wr.heap.size) :
 ∃v8 w8,(Builtin.append_ #[39,39] 39 #[ov,.slice (some ⟨wr.heap.size,0,none⟩) 1 1]).run prog (wr.alloc (iM r))=.ok v8 w8/\aT w8 B v8 (out++[r])/\Below B w w8:=by
 have hb7:Below wr.heap.size wr (wr.alloc (iM r)):=(ajb _ _).alloc (Xc _) _;have h7:=h.below hb7;obtain⟨v8,w8,hrun,A8,C8,_⟩:=iQ (wr.alloc (iM r)) B 39 ov out [r] h7 ⟨wr.heap.size,0,none⟩ 1 (qB wr r) (by simp;omega) (aje hB hb7.size);exact⟨v8,w8,hrun,A8,(hb.trans (hb7.mono hB)).trans (C8.below (aje hB hb7.size) (λk hk z=>by have:=(ajz h7 k z).1;omega))⟩
theorem Tj {p:Rc->Bool}{l:List Rc}{k:Nat}(h:k<l.length):(l.take (k+1)).filter p=(l.take k).filter p++(if p (rc l k) then [rc l k] else []):=by
 rw[ajo h,<-bP h,alu];simp only[amW,List.filter_nil]
theorem ac0 {w w1:World}{B c:Nat}{F:Nat->Prop}{s:aJ}(h:qg w B c F s)(hb:Below w.heap.size w w1){lv:Value}{l:List Rc}(ha:aT w1 w.heap.size lv l)(hB:B<=w.heap.size) :
 ∃a n cp,lv=.slice a n cp/\w1.frozen? ⟨c,0,none⟩=false/\tZ qg w (w1.setCell ⟨c,0,none⟩ (.slice a n cp)) B c F ⟨l,s.last⟩:=by
 obtain⟨v,y1,y2,y3,y4,y5,y6,y7,y8⟩:=h.below hb;have hcl:c<w.heap.size:=by obtain⟨_,x,_⟩:=h;exact x.2
 obtain⟨a,cp,rfl,_⟩:=ha.shape;have hn:(Value.slice a l.length cp).ownBlock≠some c:=λz=>by have:=(ajz ha c z).1;omega
 have hS:aH (λk=>k=c) w1 (w1.setCell ⟨c,0,none⟩ (.slice a l.length cp)):=aH.setCell (A:=λk=>k=c) (p:=⟨c,0,none⟩) (aH.refl _ _) (.inl rfl) _;have ha2:aT (w1.setCell ⟨c,0,none⟩ (.slice a l.length cp)) w.heap.size (.slice a l.length cp) l:=ha.bZ hS (λg hg z=>hn (by rw[hg,z]));have ha3:aT (w1.setCell ⟨c,0,none⟩ (.slice a l.length cp)) B (.slice a l.length cp) l:=by
  refine⟨ha2.1,?_⟩;rcases ha2.2 with q|⟨g,cap,cur,h1,h2,h3⟩
  ·exact .inl q
  ·exact .inr ⟨g,cap,cur,h1,aje hB h2,h3⟩
 refine⟨a,l.length,cp,rfl,y4,λk=>k=c\/(Value.slice a l.length cp).ownBlock=some k,⟨_,⟨y1.1,ajc y1.2 hS.size⟩,ajL _ _ _ (by rw[y2]),?_,?_,?_,ha3,hn,λk=>amq⟩,(aH.aA (A:=F) hb).more hS (λi _ z=>by subst z;exact(y8 i).2 (.inl rfl)),λk hk=>?_⟩
 ·rw[aji _ _ _ _ (by simp)];exact y3
 ·rw[ajt];exact y4
 ·rw[ajt];exact y5
 ·rcases hk with z|z
  ·subst z;exact .inl ((y8 k).2 (.inl rfl))
  ·exact .inr (ajz ha k z).1
theorem Tm {w:World}{B c:Nat}{F:Nat->Prop}{s:aJ}(r:Rc)(hr:Small r)(h:qg w B c F s)(hk:s.Ok)(hB:B<=w.heap.size)(hE:bY s r=0)(hc:dL r=0)(hkk:r.k=2\/r.k=3) :
 Calls prog 78 #[.pointer (some ⟨c,0,none⟩),.agg #[.int .i64 r.k,.int .i64 r.q,.int .i64 r.t,.string r.s,.string r.h,.string r.d]] w λe w'=>e=.returned (.int .i64 0)/\tZ qg w w' B c F ⟨s.l.filter (λx=>!pF r x),s.last⟩:=by
 have hfew:=hk.iW;have hb0:=(((ajb w.heap.size w).alloc (Xc _) (iM r)));have PT:=aj (wG r hr (h.below hb0) hk);rw[hE] at PT;have R0:=aj (RB.new w r.k r.q r.t r.s r.h r.d 73);obtain⟨_,x0,x1,x2,x3,x4,x5,_⟩:=ah R0;obtain⟨a,cap,c0,_,hcap,hcm,hsl,hcl⟩:=h.read;unfold maxLen at hcm;have Bf:=aj hsl;have HC:=aj c0;have HH:=aj h;have HM:Hid (∀x∈s.l,aG false x.s=0/\x.s.size<=140737488355328):=aj (λx hx=>⟨O1 (hk.msg x hx).2 (hk.msg x hx).1,by have:=(hk.small hx).1;omega⟩);have B0:=aj hb0;have HK:=aj hkk;have HCk:=aj hc;have hrs:=hr.s;unfold iM at PT B0
 clear h hk hE hb0 hkk hsl c0 hc;go_enter func78,ntmps78;go_wp2_with fail;refine(ah PT).mono ?_;rintro e w1 ⟨rfl,b1⟩;have B1:=aj (ak (ah B0) b1);have R1:=aj ((ah R0).next b1);have hw1:w.heap.size+1<=w1.heap.size:=by have:=b1.size;simp at this;omega
 obtain⟨_,z0,z1,z2,z3,z4,z5,_⟩:=ah R1;have k1:(r.k==1)=false:=by rcases ah HK with z|z<;>simp[z]
 have k4:(r.k==4)=false:=by rcases ah HK with z|z<;>simp[z]
 clear b1 PT B0 x0 x1 x2 x3 x4 x5 R0;go_wp2_with fail;clear z0 z1 z2 z3 z4 z5;go_loopw [6,7] (λlv iv wr=>∃(k:Nat),iv=.int .i64 k/\k<=s.l.length/\Hid (aT wr w1.heap.size lv ((s.l.take k).filter (λx=>!pF r x))/\Below w1.heap.size w1 wr)) (λ_ iv _=>s.l.length-(intOf iv).toNat)
 case atStart=>exact⟨0,rfl,ajm _,aj ⟨aT.empty _ _,ajb _ _⟩⟩
 case round =>
  obtain⟨k,rfl,hk,HT⟩:=hrel;have Hb:Hid (Below w.heap.size w wr):=aj ((ah B1).trans ((ah HT).2.mono (by omega)));have c0:=((ah Hb).cell (p:=⟨c,0,none⟩) hcl).trans (ah HC);have hwr:=(ah HT).2.size;by_cases hlt:k<s.l.length
  ·obtain⟨ga,o,rfl,s6⟩:=ah Bf k hlt;obtain⟨y,hy⟩:∃y,y=rc s.l k:=⟨_,rfl⟩;have s7:=s6.below (ah Hb) s6.lt;have hft:=Tj (p:=λx=>!pF r x) hlt;have hm:=ah HM (rc s.l k) (by rw[bP hlt];exact akk hlt);rw[<-hy] at s7 hft hm;obtain⟨_,y0,y1,y2,y3,y4,y5⟩:=s7;have hlen:((s.l.take k).filter (λx=>!pF r x)).length<=200:=by
    refine aje (akB _ _) ?_;rw[ajn];omega
   have RX:=aj (RB.new wr y.k y.q y.t y.s y.h y.d 73);have RB0:=aj (((ah R1).below (ah HT).2 (show w.heap.size<w1.heap.size by omega)).alloc (iM y));have hbx:Below wr.heap.size wr (wr.alloc (iM y)):=(ajb _ _).alloc (Xc _) _;have HG:Hid (pF r y=true->∀w3,Below wr.heap.size wr w3->aT w3 w1.heap.size u6 ((s.l.take (k+1)).filter (λx=>!pF r x))/\Below w1.heap.size w1 w3):=aj (λhg w3 hb3=>by
    rw[hft,hg];simp only[Bool.not_true,amg,ant,ake];exact⟨(ah HT).1.below hb3,(ah HT).2.trans (hb3.mono hwr)⟩)
   have HN:Hid (pF r y=false->∀w3,Below wr.heap.size wr w3->∃v8 w8,(Builtin.append_ #[39,39] 39 #[u6,.slice (some ⟨w3.heap.size,0,none⟩) 1 1]).run prog (w3.alloc (iM y))=.ok v8 w8/\aT w8 w1.heap.size v8 ((s.l.take (k+1)).filter (λx=>!pF r x))/\Below w1.heap.size w1 w8):=aj (λhg w3 hb3=>by
    rw[hft,hg];simp only[Bool.not_false,anq];exact acZ ((ah HT).1.below hb3) ((ah HT).2.trans (hb3.mono hwr)) y (by omega) (aje hwr hb3.size))
   have Hx:=aj hbx;unfold iM at RB0 Hx HN;have Hgo:Hid (pF r y=((decide (r.k=2)&&decide (y.q=r.q))||(decide (r.k=3)&&(decide (y.q<r.q)&&mX r.s y.s)))):=aj rfl;clear s6 hy hft hbx HT Hb;rcases ah HK with hk2|hk3
   ·have e2:(r.k==2)=true:=by simpa using hk2
    have e3:(r.k==3)=false:=by simp[hk2]
    by_cases hq:y.q=r.q
    ·have eq1:(y.q==r.q)=true:=by simpa using hq
     have G1:=aj (ah HG (by rw[ah Hgo,ajg hk2,ajg hq];rfl) _ (ah Hx));obtain⟨_,q0,q1,q2,q3,q4,q5,_⟩:=ah RB0;obtain⟨_,p0,p1,p2,p3,p4,p5,_⟩:=ah RX;clear hk2 hq HG HN Hgo RB0 RX;go_wp2_with fail;refine⟨⟨k+1,by go_num,by omega,G1⟩,?_⟩;simp[intOf];omega
    ·have eq1:(y.q==r.q)=false:=by simpa using hq
     obtain⟨v8,w8,hrun,n8⟩:=ah HN (by rw[ah Hgo,ajg hk2,ajd hq,ajd (show ¬r.k=3 by omega)];rfl) _ (ah Hx);have N8:=aj n8;rw[akS] at hrun;have nU:=aj hrun;obtain⟨_,q0,q1,q2,q3,q4,q5,_⟩:=ah RB0;obtain⟨_,p0,p1,p2,p3,p4,p5,_⟩:=ah RX;clear hk2 hq HG HN Hgo hrun n8 RB0 RX;go_wp2_with (at_builtin;refine ajy _ rfl _ _ _ _ rfl _ _ rfl rfl _ _ (ah nU) ?_);refine⟨⟨k+1,by go_num,by omega,N8⟩,?_⟩;simp[intOf];omega
   ·have e2:(r.k==2)=false:=by simp[hk3]
    have e3:(r.k==3)=true:=by simpa using hk3
    have hne2:¬r.k=2:=by omega
    by_cases hq:y.q<r.q
    ·have eq1:decide (y.q<r.q)=true:=ajg hq;have ahU:=afE (ah HCk) hk3;have PK:=aj (tN r.s y.s (wr.alloc (iM y)) hrs hm.2 (sG ahU) (sG hm.1));rw[Ju hm.1] at PK;have afF:Hid (pF r y=mX r.s y.s):=aj (by rw[ah Hgo,ajd hne2,ajg hk3,ajg hq];simp);unfold iM at PK;obtain⟨_,q0,q1,q2,q3,q4,q5,_⟩:=ah RB0;obtain⟨_,p0,p1,p2,p3,p4,p5,_⟩:=ah RX;clear hk3 hq Hgo hne2 ahU;go_wp2_with fail;refine(ah PK).mono ?_;rintro e w3 ⟨rfl,b3⟩;obtain⟨_,p0,p1,p2,p3,p4,p5,_⟩:=(ah RX).next b3;have B3:=aj (ak (ah Hx) b3)
     clear b3 PK RB0 RX q0 q1 q2 q3 q4 q5
     cases htk:mX r.s y.s with
     | true =>
      have G1:=aj (ah HG (by rw[ah afF,htk]) _ (ah B3));clear HG HN afF htk;go_wp2_with fail;refine⟨⟨k+1,by go_num,by omega,G1⟩,?_⟩;simp[intOf];omega
     | false =>
      obtain⟨v8,w8,hrun,n8⟩:=ah HN (by rw[ah afF,htk]) _ (ah B3);have N8:=aj n8;have nU:=aj hrun;clear HG HN afF htk hrun n8;go_wp2_with (at_builtin;refine ajy _ rfl _ _ _ _ rfl _ _ rfl rfl _ _ (ah nU) ?_);refine⟨⟨k+1,by go_num,by omega,N8⟩,?_⟩;simp[intOf];omega
    ·have eq1:decide (y.q<r.q)=false:=ajd hq;obtain⟨v8,w8,hrun,n8⟩:=ah HN (by rw[ah Hgo,ajd hne2,ajg hk3,ajd hq];rfl) _ (ah Hx);have N8:=aj n8;rw[akS] at hrun;have nU:=aj hrun;obtain⟨_,q0,q1,q2,q3,q4,q5,_⟩:=ah RB0;obtain⟨_,p0,p1,p2,p3,p4,p5,_⟩:=ah RX;clear hk3 hq HG HN Hgo hrun n8 hne2 RB0 RX;go_wp2_with (at_builtin;refine ajy _ rfl _ _ _ _ rfl _ _ rfl rfl _ _ (ah nU) ?_);refine⟨⟨k+1,by go_num,by omega,N8⟩,?_⟩;simp[intOf];omega
  ·obtain rfl:k=s.l.length:=by omega
   have h3:=ah HT;rw[ajN] at h3;have h4:aT wr w.heap.size u6 (s.l.filter (λx=>!pF r x)):=by
    refine⟨h3.1.1,?_⟩;rcases h3.1.2 with q|⟨g,cap,cur,x1,x2,x3⟩
    ·exact .inl q
    ·exact .inr ⟨g,cap,cur,x1,aje (by omega) x2,x3⟩
   obtain⟨a',n',cp',rfl,f0,d0⟩:=ac0 (ah HH) (ah Hb) h4 hB;have D0:=aj d0;clear h3 h4 d0 HT;go_wp2_with fail;go_ret;exact⟨rfl,ah D0⟩
theorem ac1 {s:aJ}{r:Rc}(h:bY s r=0):dL r=0:=by
 apply aju;intro z;unfold bY at h;rw[if_pos z] at h;exact z h
theorem Jv {w:World}{B c:Nat}{F:Nat->Prop}{s:aJ}(r:Rc)(hr:Small r)(h:qg w B c F s)(hk:s.Ok)(hB:B<=w.heap.size) :
 Calls prog 78 #[.pointer (some ⟨c,0,none⟩),.agg #[.int .i64 r.k,.int .i64 r.q,.int .i64 r.t,.string r.s,.string r.h,.string r.d]] w λe w'=>e=.returned (.int .i64 (bY s r))/\tZ qg w w' B c F (jW s r):=by
 by_cases h0:bY s r=0
 ·have hc:=ac1 h0;obtain⟨k1,k2,_⟩:=Pk.oC (r:=r.pk) hc;have k1':1<=r.k:=k1;have k2':r.k<=4:=k2;unfold jW;rw[h0,if_neg (by simp)];by_cases e1:r.k=1
  ·rw[if_pos e1];exact Wh r hr h hk hB h0 e1
  ·rw[if_neg e1];by_cases e4:r.k=4
   ·rw[if_pos e4];exact Ti r hr h hk h0 e4
   ·rw[if_neg e4];exact Tm r hr h hk hB h0 hc (by omega)
 ·unfold jW;rw[if_pos h0];exact V9 r hr h hk rfl h0
theorem ZX {l:List Rc}{n:Int}(h:∀k,k<l.length->¬(rc l k).q=n):Ah l n=none:=by
 unfold Ah;rw[akZ];intro x hx;obtain⟨j,hj,e⟩:=akl hx;have:=h j hj;rw[bP hj,e] at this;simpa using this
theorem get_some {l:List Rc}{n:Int}{k:Nat}(hk:k<l.length)(h:∀j,j<k->¬(rc l j).q=n)(hq:(rc l k).q=n):Ah l n=some (rc l k):=by
 unfold Ah;rw[List.find?_eq_some_iff_append];refine⟨by simpa using hq,l.take k,l.drop (k+1),?_,?_⟩
 ·rw[bP hk,<-ajD hk,ajA]
 ·intro x hx;obtain⟨j,hj,e⟩:=akl hx;rw[ajn] at hj;have:=h j (by omega);rw[bP (by omega)] at this;rw[alC] at e;rw[e] at this;simpa using this
theorem ac2 {w:World}{B c:Nat}{F:Nat->Prop}{s:aJ}(n:Int)(h:qg w B c F s)(hk:s.Ok) :
 Calls prog 43 #[.pointer (some ⟨c,0,none⟩),.int .i64 n] w λe w'=>e=.returned (ZI (Ah s.l n))/\Below w.heap.size w w':=by
 have hfew:=hk.iW;obtain⟨a,cap,c0,_,hcap,hcm,hsl,hcl⟩:=h.read;unfold maxLen at hcm;have Bf:=aj hsl;have HC:=aj c0;have R0:=aj (RB.new w 0 0 0 ⟨#[]⟩ ⟨#[]⟩ ⟨#[]⟩ 73);have B0:=aj ((ajb w.heap.size w).alloc (Xc _) (.cells #[.int .i64 0,.int .i64 0,.int .i64 0,.string ⟨#[]⟩,.string ⟨#[]⟩,.string ⟨#[]⟩] 73));clear h hk hsl c0;go_enter func43,ntmps43;go_wp2_with fail;obtain⟨w0,hw0⟩:∃w0,w0=w.alloc (.cells #[.int .i64 0,.int .i64 0,.int .i64 0,.string ⟨#[]⟩,.string ⟨#[]⟩,.string ⟨#[]⟩] 73):=⟨_,rfl⟩;go_loopw [6] (λiv wr=>∃(k:Nat),iv=.int .i64 k/\k<=s.l.length/\Hid (∀j,j<k->¬(rc s.l j).q=n)/\Hid (RB wr w.heap.size 0 0 0 ⟨#[]⟩ ⟨#[]⟩ ⟨#[]⟩/\Below w.heap.size w wr)) (λiv _=>s.l.length-(intOf iv).toNat)
 case atStart=>exact⟨0,rfl,ajm _,aj (λj hj=>absurd hj (ajG j)),aj ⟨ah R0,ah B0⟩⟩
 case round =>
  clear R0 B0 hw0;obtain⟨k,rfl,hk,HQ,HT⟩:=hrel;have c0:=((ah HT).2.cell (p:=⟨c,0,none⟩) hcl).trans (ah HC);by_cases hlt:k<s.l.length
  ·obtain⟨ga,o,rfl,s6⟩:=ah Bf k hlt;obtain⟨y,hy⟩:∃y,y=rc s.l k:=⟨_,rfl⟩;have s7:=s6.below (ah HT).2 s6.lt;rw[<-hy] at s7;obtain⟨_,y0,y1,y2,y3,y4,y5⟩:=s7;by_cases hq:y.q=n
   ·have e1:(y.q==n)=true:=by simpa using hq
    have HR:Hid (Ah s.l n=some y):=aj (by rw[hy];exact get_some hlt (ah HQ) (by rw[<-hy];exact hq));obtain⟨_,x0,x1,x2,x3,x4,x5,fr⟩:=(ah HT).1;have f0:=fr 0;have f1:=fr 1;have f2:=fr 2;have f3:=fr 3;have f4:=fr 4;have f5:=fr 5;clear hy hq s6 HQ fr;go_wp2_with fail;refine ajJ (dA rfl rfl ((ah HT).1.eH _ _ _ _ _ _)) rfl ?_;exact⟨by rw[ah HR];rfl,aQ (ah HT).2 (Xc _)⟩
   ·have e1:(y.q==n)=false:=by simpa using hq
    have Wi:Hid (∀j,j<k+1->¬(rc s.l j).q=n):=aj (λj hj=>by
     by_cases z:j<k
     ·exact ah HQ j z
     ·obtain rfl:j=k:=by omega
      rw[<-hy];exact hq)
    clear hy hq s6;go_wp2_with fail;refine⟨⟨k+1,by go_num,by omega,Wi,HT⟩,?_⟩;simp[intOf];omega
  ·obtain rfl:k=s.l.length:=by omega
   have HR:Hid (Ah s.l n=none):=aj (ZX (ah HQ));obtain⟨_,x0,x1,x2,x3,x4,x5,fr⟩:=(ah HT).1;have f0:=fr 0;have f1:=fr 1;have f2:=fr 2;have f3:=fr 3;have f4:=fr 4;have f5:=fr 5;clear HQ fr;go_wp2_with fail;refine ajJ (dA rfl rfl ((ah HT).1.eH _ _ _ _ _ _)) rfl ?_;exact⟨by rw[ah HR];rfl,aQ (ah HT).2 (Xc _)⟩
def iO (f:ByteArray)(fr:Int)(last:Bool):List Rc->Option Rc->Option Rc
 | [],o=>o
 | x::l,o=>iO f fr last l (if (decide (fr<=x.q)&&mX f x.s)&&(last||o.isNone) then some x else o)
theorem AL (f:ByteArray)(fr:Int)(last:Bool):∀(a b:List Rc) (o:Option Rc),iO f fr last (a++b) o=iO f fr last b (iO f fr last a o)
 | [],_,_=>rfl
 | x::a,b,o=>by rw[ajM,iO,iO,AL f fr last a b]
theorem Wj (f:ByteArray)(fr:Int)(last:Bool){l:List Rc}{k:Nat}(h:k<l.length):iO f fr last (l.take (k+1)) none=if (decide (fr<=(rc l k).q)&&mX f (rc l k).s)&&(last||(iO f fr last (l.take k) none).isNone) then some (rc l k) else iO f fr last (l.take k) none:=by
 rw[ajo h,<-bP h,AL];rfl
theorem Jw (f:ByteArray)(fr:Int):∀(l:List Rc) (x:Rc),iO f fr false l (some x)=some x
 | [],_=>rfl
 | y::l,x=>by rw[iO];simp[Jw f fr l x]
theorem MP (f:ByteArray)(fr:Int):∀l:List Rc,iO f fr false l none=rW f l fr
 | []=>rfl
 | x::l=>by
  unfold rW;rw[iO,alI];by_cases h:(decide (fr<=x.q)&&mX f x.s)=true
  ·have h2:(mX f x.s&&decide (fr<=x.q))=true:=by rw[Bool.and_comm];exact h
   rw[h,h2];simp[Jw]
  ·have h':(decide (fr<=x.q)&&mX f x.s)=false:=by simpa using h
   have h2:(mX f x.s&&decide (fr<=x.q))=false:=by rw[Bool.and_comm];exact h'
   rw[h',h2];simp only[akH,amg,ant];rw[MP f fr l];rfl
theorem yw (f:ByteArray)(fr:Int):∀(l:List Rc) (o:Option Rc),(∀x∈l,fr<=x.q)->iO f fr true l o=((Jd f l).getLast?).or o
 | [],o,_=>by simp[iO,Jd]
 | x::l,o,h=>by
  have hx:decide (fr<=x.q)=true:=ajg (h x (by simp));rw[iO,yw f fr l _ (λy hy=>h y (by simp[hy])),hx];unfold Jd;rw[amW]
  cases mX f x.s
  ·simp
  ·simp only[Bool.and_self,Bool.true_or,anq];rw[List.getLast?_cons]
   cases (List.filter (λr=>mX f r.s) l).getLast?<;>simp
theorem ZY {s:aJ}(h:s.Ok)(f:ByteArray):iO f 0 true s.l none=Ai f s.l:=by
 rw[yw f 0 s.l none (λx hx=>by have:=(h.seq hx).1;omega)];unfold Ai;simp
def Yo (o:Option Rc):Rc:=o.getD iF
def orE (o:Option Rc):Int:=if o.isSome then 0 else 4
theorem Yp (o:Option Rc):ZI o=.tuple #[rcV (Yo o),.int .i64 (orE o)]:=by cases o<;>rfl
theorem MQ {w:World}{B c:Nat}{F:Nat->Prop}{s:aJ}(f:ByteArray)(fr:Int)(last:Bool)(hf:f.size<=140737488355328)(h:qg w B c F s)(hk:s.Ok) :
 Calls prog 45 #[.pointer (some ⟨c,0,none⟩),.string f,.int .i64 fr,.bool last] w λe w'=>e=.returned (iG f (iO f fr last s.l none))/\Below w.heap.size w w':=by
 have hfew:=hk.iW;obtain⟨a,cap,c0,_,hcap,hcm,hsl,hcl⟩:=h.read;unfold maxLen at hcm;have Bf:=aj hsl;have HC:=aj c0;have HM:Hid (∀x∈s.l,aG false x.s=0/\x.s.size<=140737488355328):=aj (λx hx=>⟨O1 (hk.msg x hx).2 (hk.msg x hx).1,by have:=(hk.small hx).1;omega⟩);have R0:=aj (RB.new w 0 0 0 ⟨#[]⟩ ⟨#[]⟩ ⟨#[]⟩ 73);have B0:=aj ((ajb w.heap.size w).alloc (Xc _) (.cells #[.int .i64 0,.int .i64 0,.int .i64 0,.string ⟨#[]⟩,.string ⟨#[]⟩,.string ⟨#[]⟩] 73));have PF:=aj (nN f (w.alloc (.cells #[.int .i64 0,.int .i64 0,.int .i64 0,.string ⟨#[]⟩,.string ⟨#[]⟩,.string ⟨#[]⟩] 73)) hf)
 obtain⟨E,hE⟩:∃E,aG true f=E:=⟨_,rfl⟩;rw[hE] at PF;clear h hk hsl c0;by_cases h0:E=0
 ·have HF:Hid (aG true f=0):=aj (by rw[hE];exact h0);subst h0;clear hE;go_enter func45,ntmps45;go_wp2_with fail;refine(ah PF).mono ?_;rintro e w1 ⟨rfl,b1⟩;have hw1:w.heap.size+1<=w1.heap.size:=by have:=b1.size;simp at this;omega
  have R1:=aj ((ah R0).next b1);have B1:=aj (ak (ah B0) b1);have L1:Hid (RB (w1.alloc (.cells #[.int .i64 0,.int .i64 0,.int .i64 0,.string ⟨#[]⟩,.string ⟨#[]⟩,.string ⟨#[]⟩] 73)) w.heap.size 0 0 0 ⟨#[]⟩ ⟨#[]⟩ ⟨#[]⟩/\RB (w1.alloc (.cells #[.int .i64 0,.int .i64 0,.int .i64 0,.string ⟨#[]⟩,.string ⟨#[]⟩,.string ⟨#[]⟩] 73)) w1.heap.size 0 0 0 ⟨#[]⟩ ⟨#[]⟩ ⟨#[]⟩/\Below w.heap.size w (w1.alloc (.cells #[.int .i64 0,.int .i64 0,.int .i64 0,.string ⟨#[]⟩,.string ⟨#[]⟩,.string ⟨#[]⟩] 73))):=aj ⟨(ah R1).alloc _,RB.new w1 0 0 0 _ _ _ _,ak (ah B1) ((ajb _ w1).alloc (Xc _) _)⟩
  clear b1 PF R0 B0 R1 B1;go_wp2_with fail;go_loopw [12,13] (λev iv wr=>∃(k:Nat) (o:Option Rc),iv=.int .i64 k/\ev=.int .i64 (orE o)/\k<=s.l.length/\Hid (o=iO f fr last (s.l.take k) none)/\Hid (RB wr w.heap.size 0 0 0 ⟨#[]⟩ ⟨#[]⟩ ⟨#[]⟩/\RB wr w1.heap.size (Yo o).k (Yo o).q (Yo o).t (Yo o).s (Yo o).h (Yo o).d/\Below w.heap.size w wr)) (λ_ iv _=>s.l.length-(intOf iv).toNat)
  case atStart=>exact⟨0,none,rfl,rfl,ajm _,aj rfl,L1⟩
  case round =>
   clear L1;obtain⟨k,o,rfl,rfl,hk,HO,HT⟩:=hrel;have c0:=((ah HT).2.2.cell (p:=⟨c,0,none⟩) hcl).trans (ah HC);by_cases hlt:k<s.l.length
   ·obtain⟨ga,oo,rfl,s6⟩:=ah Bf k hlt;obtain⟨y,hy⟩:∃y,y=rc s.l k:=⟨_,rfl⟩;have s7:=s6.below (ah HT).2.2 s6.lt;have hm:=ah HM (rc s.l k) (by rw[bP hlt];exact akk hlt);have hst:=Wj f fr last hlt;rw[<-ah HO,<-hy] at hst;rw[<-hy] at s7 hm;have HSt:=aj hst;obtain⟨_,y0,y1,y2,y3,y4,y5⟩:=s7;have hgl:ga<wr.heap.size:=ajc s6.lt (ah HT).2.2.size;clear hy hst s6;by_cases hq:fr<=y.q
    ·have eq1:decide (fr<=y.q)=true:=ajg hq;have PK:=aj (tN f y.s wr hf hm.2 (sG (ah HF)) (sG hm.1));rw[Ju hm.1] at PK;go_wp2_with fail;refine(ah PK).mono ?_;rintro e w3 ⟨rfl,b3⟩;have T3:Hid (RB w3 w.heap.size 0 0 0 ⟨#[]⟩ ⟨#[]⟩ ⟨#[]⟩/\RB w3 w1.heap.size (Yo o).k (Yo o).q (Yo o).t (Yo o).s (Yo o).h (Yo o).d/\Below w.heap.size w w3):=aj ⟨(ah HT).1.next b3,(ah HT).2.1.next b3,ak (ah HT).2.2 b3⟩;have d0:=((ah T3).2.2.cell (p:=⟨c,0,none⟩) hcl).trans (ah HC);have g0:=(b3.cell (p:=⟨ga,oo+k*6,none⟩) hgl).trans y0;have g1:=(b3.cell (p:=⟨ga,oo+k*6+1,none⟩) hgl).trans y1
     have g2:=(b3.cell (p:=⟨ga,oo+k*6+2,none⟩) hgl).trans y2;have g3:=(b3.cell (p:=⟨ga,oo+k*6+3,none⟩) hgl).trans y3;have g4:=(b3.cell (p:=⟨ga,oo+k*6+4,none⟩) hgl).trans y4;have g5:=(b3.cell (p:=⟨ga,oo+k*6+5,none⟩) hgl).trans y5;have hne:w1.heap.size≠w.heap.size:=by omega
     clear b3 PK y0 y1 y2 y3 y4 y5 HT c0
     cases htk:mX f y.s with
     | false =>
      have HO2:Hid (o=iO f fr last (s.l.take (k+1)) none):=aj (by rw[ah HSt,htk];simp);clear htk HSt HO;go_wp2_with fail;refine⟨⟨k+1,o,by go_num,rfl,by omega,HO2,T3⟩,?_⟩;simp[intOf];omega
     | true =>
      cases last with
      | true =>
       have HO2:Hid (some y=iO f fr true (s.l.take (k+1)) none):=aj (by rw[ah HSt,htk,eq1];simp);clear htk HSt HO;obtain⟨_,p0,p1,p2,p3,p4,p5,fz⟩:=(ah T3).2.1;have f0:=fz 0;have f1:=fz 1;have f2:=fz 2;have f3:=fz 3;have f4:=fz 4;have f5:=fz 5;clear fz;go_wp2_with fail;refine⟨⟨k+1,some y,by go_num,rfl,by omega,HO2,aj ⟨((((((ah T3).1.other hne).other hne).other hne).other hne).other hne).other hne,(ah T3).2.1.eH _ _ _ _ _ _,aQ (ah T3).2.2 (by omega)⟩⟩,?_⟩;simp[intOf];omega
      | false =>
       cases o with
       | none =>
        have HO2:Hid (some y=iO f fr false (s.l.take (k+1)) none):=aj (by rw[ah HSt,htk,eq1];simp);have e4:orE none=4:=rfl;clear htk HSt HO;rw[e4];obtain⟨_,p0,p1,p2,p3,p4,p5,fz⟩:=(ah T3).2.1;have f0:=fz 0;have f1:=fz 1;have f2:=fz 2;have f3:=fz 3;have f4:=fz 4;have f5:=fz 5;clear fz;go_wp2_with fail;refine⟨⟨k+1,some y,by go_num,rfl,by omega,HO2,aj ⟨((((((ah T3).1.other hne).other hne).other hne).other hne).other hne).other hne,(ah T3).2.1.eH _ _ _ _ _ _,aQ (ah T3).2.2 (by omega)⟩⟩,?_⟩;simp[intOf];omega
       | some z =>
        have HO2:Hid (some z=iO f fr false (s.l.take (k+1)) none):=aj (by rw[ah HSt,htk,eq1];simp);have e4:orE (some z)=0:=rfl;clear htk HSt HO;rw[e4];go_wp2_with fail;refine⟨⟨k+1,some z,by go_num,rfl,by omega,HO2,T3⟩,?_⟩;simp[intOf];omega
    ·have eq1:decide (fr<=y.q)=false:=ajd hq;have HO2:Hid (o=iO f fr last (s.l.take (k+1)) none):=aj (by rw[ah HSt,eq1];simp);clear hq HSt HO;go_wp2_with fail;refine⟨⟨k+1,o,by go_num,rfl,by omega,HO2,HT⟩,?_⟩;simp[intOf];omega
   ·obtain rfl:k=s.l.length:=by omega
    have HR:Hid (iG f (iO f fr last s.l none)=.tuple #[rcV (Yo o),.int .i64 (orE o)]):=aj (by
     have h1:=ah HO;rw[ajN] at h1;unfold iG;rw[if_pos (ah HF),<-h1,Yp])
    obtain⟨_,x0,x1,x2,x3,x4,x5,fz⟩:=(ah HT).1;obtain⟨_,p0,p1,p2,p3,p4,p5,_⟩:=(ah HT).2.1;have f0:=fz 0;have f1:=fz 1;have f2:=fz 2;have f3:=fz 3;have f4:=fz 4;have f5:=fz 5;clear HO fz;go_wp2_with fail;refine ajJ (dA rfl rfl ((ah HT).1.eH _ _ _ _ _ _)) rfl ?_;exact⟨by rw[ah HR];rfl,aQ (ah HT).2.2 (Xc _)⟩
 ·have HR:Hid (iG f (iO f fr last s.l none)=.tuple #[rcV iF,.int .i64 E]):=aj (by unfold iG;rw[hE,if_neg h0]);have h1:(E !=0)=true:=by simpa using h0
  clear hE;go_enter func45,ntmps45;go_wp2_with fail;refine(ah PF).mono ?_;rintro e w1 ⟨rfl,b1⟩;have R1:=aj ((ah R0).next b1);have B1:=aj (ak (ah B0) b1);obtain⟨_,x0,x1,x2,x3,x4,x5,fz⟩:=ah R1;have f0:=fz 0;have f1:=fz 1;have f2:=fz 2;have f3:=fz 3;have f4:=fz 4;have f5:=fz 5;clear b1 PF R0 B0 fz;go_wp2_with fail;refine ajJ (dA rfl rfl ((ah R1).eH _ _ _ _ _ _)) rfl ?_;exact⟨by rw[ah HR];rfl,aQ (ah B1) (Xc _)⟩
def Z7 (s:aJ):Value:=.agg #[.int .i64 (s.l.length:Int),.int .i64 (bI s.l:Int),.int .i64 (dU s.l),.int .i64 s.last]
theorem Wl (r:Rc)(w:World)(hs:r.s.size<=140737488355328)(hh:r.h.size<=140737488355328)(hd:r.d.size<=140737488355328) :
 Calls prog 86 #[.agg #[.int .i64 r.k,.int .i64 r.q,.int .i64 r.t,.string r.s,.string r.h,.string r.d]] w λe w'=>e=.returned (.int .i64 ((r.s.size+r.h.size+r.d.size:Nat):Int))/\Below w.heap.size w w':=by
 obtain⟨_,x0,x1,x2,x3,x4,x5,_⟩:=RB.new w r.k r.q r.t r.s r.h r.d 73;have B0:=aj ((ajb w.heap.size w).alloc (Xc _) (.cells #[.int .i64 r.k,.int .i64 r.q,.int .i64 r.t,.string r.s,.string r.h,.string r.d] 73));have hw1:IntKind.i64.wrap ((r.s.size:Int)+(r.h.size:Int))=(r.s.size:Int)+(r.h.size:Int):=by rw[ajq];omega
 have hw2:IntKind.i64.wrap ((r.s.size:Int)+(r.h.size:Int)+(r.d.size:Int))=(r.s.size:Int)+(r.h.size:Int)+(r.d.size:Int):=by rw[ajq];omega
 go_enter func86,ntmps86;go_wp2_with fail;go_ret;exact⟨dH (by omega),ah B0⟩
theorem Wn {l:List Rc}{k:Nat}(h:k<l.length):bI (l.drop k)=(rc l k).s.size+(rc l k).h.size+(rc l k).d.size+bI (l.drop (k+1)):=by
 rw[ajD h,<-bP h,bI]
theorem O4 {l:List Rc}{k:Nat}(h:k<l.length):dU (l.drop k)=(rc l k).q:=by
 rw[ajD h,<-bP h];rfl
theorem MR {w:World}{B c:Nat}{F:Nat->Prop}{s:aJ}(h:qg w B c F s)(hk:s.Ok) :
 Calls prog 41 #[.pointer (some ⟨c,0,none⟩)] w λe w'=>e=.returned (Z7 s)/\Below w.heap.size w w':=by
 have hfew:=hk.iW;have hbytes:=hk.bytes;have ahb:=hk.last;obtain⟨a,cap,c0,c1,hcap,hcm,hsl,hcl⟩:=h.read;unfold maxLen at hcm;have Bf:=aj hsl;have HC:=aj c0;have HM:Hid (∀x∈s.l,x.s.size<=135/\x.h.size+x.d.size<=256):=aj (λx hx=>hk.small hx);have S0:=aj (SB.new w 0 0 0 0 60);have B0:=aj ((ajb w.heap.size w).alloc (Xc _) (.cells #[.int .i64 0,.int .i64 0,.int .i64 0,.int .i64 0] 60));have d0:(w.alloc (.cells #[.int .i64 0,.int .i64 0,.int .i64 0,.int .i64 0] 60)).cell? ⟨c,0,none⟩=some (.slice a s.l.length cap):=by rw[(ah B0).cell (p:=⟨c,0,none⟩) hcl];exact c0
 have d1:(w.alloc (.cells #[.int .i64 0,.int .i64 0,.int .i64 0,.int .i64 0] 60)).cell? ⟨c,1,none⟩=some (.int .i64 s.last):=by rw[(ah B0).cell (p:=⟨c,1,none⟩) hcl];exact c1
 clear h hk hsl c0 c1;go_enter func41,ntmps41;go_wp2_with fail;go_region
 have L0:Hid (SB ((w.alloc (.cells #[.int .i64 0,.int .i64 0,.int .i64 0,.int .i64 0] 60)).alloc (.cells #[.int .i64 (s.l.length:Int),.int .i64 0,.int .i64 0,.int .i64 s.last] 60)).drew w.heap.size 0 0 0 0/\SB ((w.alloc (.cells #[.int .i64 0,.int .i64 0,.int .i64 0,.int .i64 0] 60)).alloc (.cells #[.int .i64 (s.l.length:Int),.int .i64 0,.int .i64 0,.int .i64 s.last] 60)).drew (w.heap.size+1) (s.l.length:Int) 0 0 s.last/\Below w.heap.size w ((w.alloc (.cells #[.int .i64 0,.int .i64 0,.int .i64 0,.int .i64 0] 60)).alloc (.cells #[.int .i64 (s.l.length:Int),.int .i64 0,.int .i64 0,.int .i64 s.last] 60)).drew):=aj (by
  have x1:=SB.new (w.alloc (.cells #[.int .i64 0,.int .i64 0,.int .i64 0,.int .i64 0] 60)) (s.l.length:Int) 0 0 s.last 60;rw[akS] at x1;exact⟨((ah S0).alloc _).next (ajb _ _).drew,x1.next (ajb _ _).drew,(ak (ah B0) ((ajb _ _).alloc (Xc _) _)).drew⟩)
 have e0:((w.alloc (.cells #[.int .i64 0,.int .i64 0,.int .i64 0,.int .i64 0] 60)).alloc (.cells #[.int .i64 (s.l.length:Int),.int .i64 0,.int .i64 0,.int .i64 s.last] 60)).drew.cell? ⟨c,0,none⟩=some (.slice a s.l.length cap):=by rw[(ah L0).2.2.cell (p:=⟨c,0,none⟩) hcl];exact ah HC
 have hw0:IntKind.i64.wrap ((s.l.length:Int)-1)=(s.l.length:Int)-1:=by rw[ajq];omega
 clear S0 B0 d0 d1;go_wp2_with fail;go_loopw [4] (λiv wr=>∃(k:Nat) (j:Int),iv=.int .i64 j/\Hid (j=(k:Int)-1)/\k<=s.l.length/\Hid (SB wr w.heap.size 0 0 0 0/\SB wr (w.heap.size+1) (s.l.length:Int) (bI (s.l.drop k):Int) (dU (s.l.drop k)) s.last/\Below w.heap.size w wr)) (λiv _=>(intOf iv+1).toNat)
 case atStart=>exact⟨s.l.length,_,rfl,aj (by first|rfl|exact hw0),Xc _,by rw[alb];exact L0⟩
 case round =>
  clear L0 e0;obtain⟨k,j,rfl,hj,hk,HT⟩:=hrel;have c0:=((ah HT).2.2.cell (p:=⟨c,0,none⟩) hcl).trans (ah HC);by_cases hk0:0<k
  ·obtain⟨i,rfl⟩:∃i,k=i+1:=⟨k-1,by omega⟩;obtain rfl:j=(i:Int):=by have:=ah hj;omega
   have hi:i<s.l.length:=by omega
   have hi0:(0:Int)<=(i:Int):=by omega
   obtain⟨ga,o,rfl,s6⟩:=ah Bf i hi;obtain⟨y,hy⟩:∃y,y=rc s.l i:=⟨_,rfl⟩;have s7:=s6.below (ah HT).2.2 s6.lt;have hm:=ah HM (rc s.l i) (by rw[bP hi];exact akk hi);have hbd:=Wn hi;have hfd:=O4 hi;rw[<-hy] at s7 hm hbd hfd;obtain⟨_,y0,y1,y2,y3,y4,y5⟩:=s7;have hgl:=s6.lt;have hsz:=(ah HT).2.2.size;have hga:¬ga=w.heap.size+1:=by omega
   have hca:¬c=w.heap.size+1:=by omega
   have ahc:ga<wr.heap.size:=by omega
   have aiE:c<wr.heap.size:=by omega
   have hle:bI (s.l.drop i)<=78200:=by
    have:=oH (s.l.take i) (s.l.drop i);rw[ajA] at this;omega
   obtain⟨nb,hnb⟩:∃nb,nb=bI (s.l.drop (i+1)):=⟨_,rfl⟩;rw[<-hnb] at hbd HT;obtain⟨_,q0,q1,q2,q3,qf⟩:=(ah HT).2.1;have hob:=(ah HT).2.1.lt;have f1:=qf 1;have f2:=qf 2;have HY:Hid (∀w3,Below wr.heap.size wr w3->SB ((w3.setCell ⟨w.heap.size+1,1,none⟩ (.int .i64 ((nb:Int)+((y.s.size+y.h.size+y.d.size:Nat):Int)))).setCell ⟨w.heap.size+1,2,none⟩ (.int .i64 y.q)) w.heap.size 0 0 0 0/\SB ((w3.setCell ⟨w.heap.size+1,1,none⟩ (.int .i64 ((nb:Int)+((y.s.size+y.h.size+y.d.size:Nat):Int)))).setCell ⟨w.heap.size+1,2,none⟩ (.int .i64 y.q)) (w.heap.size+1) (s.l.length:Int) (bI (s.l.drop i):Int) (dU (s.l.drop i)) s.last/\Below w.heap.size w ((w3.setCell ⟨w.heap.size+1,1,none⟩ (.int .i64 ((nb:Int)+((y.s.size+y.h.size+y.d.size:Nat):Int)))).setCell ⟨w.heap.size+1,2,none⟩ (.int .i64 y.q))):=aj (λw3 b3=>by
    refine⟨(((ah HT).1.next b3).other (by omega)).other (by omega),?_,((ak (ah HT).2.2 b3).setCell (p:=⟨w.heap.size+1,1,none⟩) (by simp only;omega) _).setCell (p:=⟨w.heap.size+1,2,none⟩) (by simp only;omega) _⟩;have h1:=(((ah HT).2.1.next b3).uU ((nb:Int)+((y.s.size+y.h.size+y.d.size:Nat):Int))).vT y.q;rw[hfd,hbd];have e:((y.s.size+y.h.size+y.d.size+nb:Nat):Int)=(nb:Int)+((y.s.size+y.h.size+y.d.size:Nat):Int):=by omega
    rw[e];exact h1)
   have hw1:IntKind.i64.wrap ((nb:Int)+((y.s.size+y.h.size+y.d.size:Nat):Int))=(nb:Int)+((y.s.size+y.h.size+y.d.size:Nat):Int):=by rw[ajq];omega
   have hw2:IntKind.i64.wrap ((i:Int)-1)=(i:Int)-1:=by rw[ajq];omega
   have PB:Hid (∀W,Calls prog 86 #[.agg #[.int .i64 y.k,.int .i64 y.q,.int .i64 y.t,.string y.s,.string y.h,.string y.d]] W λe w'=>e=.returned (.int .i64 ((y.s.size+y.h.size+y.d.size:Nat):Int))/\Below W.heap.size W w'):=aj (λW=>Wl y W (by omega) (by omega) (by omega));obtain⟨N,hN⟩:∃N:Nat,N=y.s.size+y.h.size+y.d.size:=⟨_,rfl⟩;rw[<-hN] at HY hw1 PB;clear hy hbd hfd s6 hj hk0 qf hnb hN;go_wp2_with fail;go_region_with (go_at_call 86;refine(ah PB _).mono ?_;rintro e w3 ⟨rfl,b3⟩;have o1:=(b3.cell (p:=⟨w.heap.size+1,1,none⟩) hob).trans q1;have o2:=(b3.cell (p:=⟨w.heap.size+1,2,none⟩) hob).trans q2;have o3:=(b3.frozen (p:=⟨w.heap.size+1,1,none⟩) hob).trans f1;have o4:=(b3.frozen (p:=⟨w.heap.size+1,2,none⟩) hob).trans f2;have o5:=(b3.cell (p:=⟨c,0,none⟩) aiE).trans c0;have o6:=(b3.cell (p:=⟨ga,o+i*6+1,none⟩) ahc).trans y1)
   all_goals have HY2:=aj (ah HY w3 (((ajb wr.heap.size wr).drew).trans b3))
   all_goals clear b3 HY PB HT y0 y1 y2 y3 y4 y5 q0 q1 q2 q3 f1 f2 c0
   all_goals go_wp2_with fail
   all_goals refine⟨⟨i,_,rfl,aj (by first|rfl|exact hw2),by omega,HY2⟩,?_⟩
   all_goals first|(simp[intOf];done)|(simp[intOf];omega)
  ·obtain rfl:k=0:=by omega
   obtain rfl:j=-1:=by have:=ah hj;omega
   have HR:Hid (Z7 s=.agg #[.int .i64 (s.l.length:Int),.int .i64 (bI (s.l.drop 0):Int),.int .i64 (dU (s.l.drop 0)),.int .i64 s.last]):=aj (by unfold Z7;rw[alY]);obtain⟨_,q0,q1,q2,q3,_⟩:=(ah HT).2.1;obtain⟨_,x0,x1,x2,x3,fz⟩:=(ah HT).1;have f0:=fz 0;have f1:=fz 1;have f2:=fz 2;have f3:=fz 3;clear hj fz;go_wp2_with fail;refine ajJ (vV rfl rfl (((((ah HT).1.Oa _).uU _).vT _).vU _)) rfl ?_;exact⟨by first|(unfold Z7;rfl)|rw[ah HR],((((ah HT).2.2.setCell (p:=⟨w.heap.size,0,none⟩) (Xc _) _).setCell (p:=⟨w.heap.size,1,none⟩) (Xc _) _).setCell (p:=⟨w.heap.size,2,none⟩) (Xc _) _).setCell (p:=⟨w.heap.size,3,none⟩) (Xc _) _⟩
