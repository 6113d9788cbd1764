/- A part. -/
import Derived.Test.YtmhbobnfmncdbaaGreatDoorQ8
import Derived.Test.YtmhbobnfmncdbaaGreatDoorQ11
set_option maxRecDepth 100000
set_option maxHeartbeats 8000000
namespace Go.Proofs.YtmhbobnfmncdbaaGreatDoor
open Go.RowKit Go.Proofs.Tryz
namespace Dk
theorem lD {r:Rc}(h:gV r=0)(h1:r.k=1):aA false r.s=0:=by
 have e:=kD r.k r.q r.t r.s r.h r.d;have e2:iP r.k r.q r.t r.s r.h r.d=0:=h;rw[e2] at e;by_cases hb:Pk.inB r.k r.q r.t=false
 ·rw[if_pos hb] at e;cases e
 ·rw[if_neg hb,if_pos h1] at e;unfold xu at e;by_cases z:aA false r.s≠0
  ·rw[if_pos z] at e;exact e.symm
  ·exact Classical.byContradiction z
theorem bD.Ok.cnt {s:bD}(h:s.Ok):∃es,Cnt s.l es:=Qa _ s.l rfl (λx hx=>⟨lD (h.msg x hx).2 (h.msg x hx).1,by have:=(h.small hx).1;omega⟩) h.names
theorem QO (w:World)(l:List Rc)(T:TypeId):vJ (w.alloc (.cells (aC l).toArray T)) (some ⟨w.heap.size,0,none⟩) l:=λk hk=>by
 refine⟨w.heap.size,0,rfl,?_⟩;have hat:=Bj l k hk;refine⟨by simp,?_,?_,?_,?_,?_,?_⟩
 ·rw[cell_of_row _ w.heap.size _ _ _ _ (heap_alloc_new w _),Nat.zero_add];simpa using hat.1
 ·rw[cell_of_row _ w.heap.size _ _ _ _ (heap_alloc_new w _),Nat.zero_add];simpa using hat.2.1
 ·rw[cell_of_row _ w.heap.size _ _ _ _ (heap_alloc_new w _),Nat.zero_add];simpa using hat.2.2.1
 ·rw[cell_of_row _ w.heap.size _ _ _ _ (heap_alloc_new w _),Nat.zero_add];simpa using hat.2.2.2.1
 ·rw[cell_of_row _ w.heap.size _ _ _ _ (heap_alloc_new w _),Nat.zero_add];simpa using hat.2.2.2.2.1
 ·rw[cell_of_row _ w.heap.size _ _ _ _ (heap_alloc_new w _),Nat.zero_add];simpa using hat.2.2.2.2.2
def oM (n:Int):Rc:=⟨1,n,0,⟨#[97,46,98]⟩,⟨#[]⟩,⟨#[120]⟩⟩
def bV (n:Int)(f:ByteArray):Rc:=⟨3,n,0,f,⟨#[]⟩,⟨#[]⟩⟩
theorem Yf:(gJ [oM 4,oM 7,bV 7 ⟨#[62]⟩]).l.length=1:=by decide +kernel
def KC (E n:Int)(f:ByteArray)(x:Rc):Bool:=(E !=0)||(decide (n<=x.q)||!aJ f x.s)
theorem Yg {s:bD}(h:s.Ok)(n:Int)(f:ByteArray):(gW s (bV n f)).l=s.l.filter (KC (bQ s (bV n f)) n f)/\(gW s (bV n f)).last=s.last:=by
 by_cases h0:bQ s (bV n f)=0
 ·rw[xE h0 rfl,h0];refine⟨?_,rfl⟩;have hc:gV (bV n f)=0:=by rw[<-Me (s:=s) (r:=bV n f) rfl];exact h0
  have hf:aA true f=0:=by
   have e:=kD (bV n f).k (bV n f).q (bV n f).t (bV n f).s (bV n f).h (bV n f).d;have e2:iP (bV n f).k (bV n f).q (bV n f).t (bV n f).s (bV n f).h (bV n f).d=0:=hc;rw[e2] at e;by_cases hb:Pk.inB (bV n f).k (bV n f).q (bV n f).t=false
   ·rw[if_pos hb] at e;cases e
   ·rw[if_neg hb,if_neg (show ¬(bV n f).k=1 by simp[bV]),if_pos (show(bV n f).k=3 from rfl)] at e;unfold xw at e;by_cases z:aA true (bV n f).s≠0
    ·rw[if_pos z] at e;exact e.symm
    ·exact Classical.byContradiction z
  show s.l.filter _=s.l.filter _;refine List.filter_congr (λx hx=>?_);have hx2:=h.msg x hx;have hs:aA false x.s=0:=by
   have e:=kD x.k x.q x.t x.s x.h x.d;have e2:iP x.k x.q x.t x.s x.h x.d=0:=hx2.2;rw[e2] at e;by_cases hb:Pk.inB x.k x.q x.t=false
   ·rw[if_pos hb] at e;cases e
   ·rw[if_neg hb,if_pos hx2.1] at e;unfold xu at e;by_cases z:aA false x.s≠0
    ·rw[if_pos z] at e;exact e.symm
    ·exact Classical.byContradiction z
  unfold KC aJ jr;rw[hf,hs];show(!(decide (x.q<n)&&aP (Pl.toks f) (Pl.toks x.s)))=_;by_cases z:x.q<n
  ·rw[decide_eq_true z,decide_eq_false (show ¬n<=x.q by omega)];simp
  ·rw[decide_eq_false z,decide_eq_true (show n<=x.q by omega)];simp
 ·have e:gW s (bV n f)=s:=by unfold gW;rw[if_pos h0]
  rw[e];refine⟨?_,rfl⟩;have hb:(bQ s (bV n f) !=0)=true:=by simpa using h0
  have:∀x,KC (bQ s (bV n f)) n f x=true:=λx=>by unfold KC;rw[hb];rfl
  rw[List.filter_eq_self.2 (λx _=>this x)]
def Fq (SH:World->Nat->Nat->(Nat->Prop)->bD->Prop)(Cs:Nat->Prop)(w wr:World)(q:Nat)(s:bD):Prop:=∃F,SH wr w.heap.size q F s/\Below w.heap.size w wr/\∀k,Cs k->k<wr.heap.size/\¬F k
section
variable {SH:World->Nat->Nat->(Nat->Prop)->bD->Prop}{Cs:Nat->Prop}{w wr w':World}{q:Nat}{s s':bD}
theorem Made.all (H:aS SH)(h:Made SH w wr q s)(hk:s.Ok) :
 Calls prog 29 #[.pointer (some ⟨q,0,none⟩)] wr λe w'=>∃a c,e=.returned (.slice a s.l.length c)/\(s.l.length<=c/\c<=maxLen)/\vJ w' a s.l/\Fq SH (λk=>∃z,a=some z/\z.block=k) w w' q s/\Below wr.heap.size wr w':=by
 have hr:=h.room;obtain⟨F,h1,h2⟩:=h;refine(H.all h1 hk hr).mono ?_;rintro e w' ⟨v,he,hA,hb⟩;obtain⟨a,c,rfl,hc1,hc2,hs⟩:=hA.shape;have ha:∀z,a=some z->wr.heap.size<=z.block/\z.block<w'.heap.size:=λz hz=>World.ownsRow.lt hA z.block (by rw[hz];rfl)
 refine⟨a,c,he,⟨hc1,hc2⟩,hs,⟨F,H.aW (A:=λ_=>False) h1 (aB.of_below hb) (λ_ _ z=>z),h2.trans (hb.mono hr),λk hk=>?_⟩,hb⟩;obtain⟨z,hz,rfl⟩:=hk;exact⟨(ha z hz).2,λy=>by have:=(H.own h1 _ y).2;have:=(ha z hz).1;omega⟩
theorem Fq.made (h:Fq SH Cs w wr q s):Made SH w wr q s:=by obtain⟨F,h1,h2,_⟩:=h;exact⟨F,h1,h2⟩
theorem Fq.below (H:aS SH)(h:Fq SH Cs w wr q s)(hb:Below wr.heap.size wr w'):Fq SH Cs w w' q s:=by
 have hr:=h.made.room;obtain⟨F,h1,h2,h3⟩:=h;exact⟨F,H.aW (A:=λ_=>False) h1 (aB.of_below hb) (λ_ _ z=>z),h2.trans (hb.mono hr),λk hk=>⟨Nat.lt_of_lt_of_le (h3 k hk).1 hb.size,(h3 k hk).2⟩⟩
theorem Fq.did (H:aS SH)(h:Fq SH Cs w wr q s){fn:FuncId}{args:Array Value}{Q:Ending->World->Prop}
 (hc:∀F,SH wr w.heap.size q F s->Calls prog fn args wr λe w'=>Q e w'/\ny SH wr w' w.heap.size q F s') :
 Calls prog fn args wr λe w'=>Q e w'/\Made SH w w' q s'/\∀k,Cs k->k<wr.heap.size/\w'.heap[k]?=wr.heap[k]?:=by
 have hr:=h.made.room;obtain⟨F,h1,h2,h3⟩:=h;refine(hc F h1).mono ?_;rintro e w' ⟨hq,F',a1,a2,_⟩;exact⟨hq,⟨F',a1,h2.trans (a2.below hr (λk hk z=>by have:=(H.own h1 k z).1;omega))⟩,λk hk=>⟨(h3 k hk).1,a2.block k (h3 k hk).1 (h3 k hk).2⟩⟩
theorem Made.sums (H:aS SH)(h:Made SH w wr q s)(hk:s.Ok) :
 Calls prog 98 #[.pointer (some ⟨q,0,none⟩)] wr λe w'=>e=.returned (.agg #[.int .i64 (s.l.length:Int),.int .i64 (fZ s.l:Int),.int .i64 (qF s.l),.int .i64 s.last])/\Below wr.heap.size wr w':=by
 have hr:=h.room;obtain⟨F,h1,_⟩:=h;exact H.sums h1 hk hr
end
theorem aai {w wr:World}{B:Nat}{ov:Value}{out:List Rc}(h:bT wr B ov out)(hb:Below B w wr)(r:Rc)(hl:out.length<=200000)(hB:B<=wr.heap.size)(T:TypeId)(hT:T=33) :
 ∃v8 w8,(Builtin.append_ #[25,25] 25 #[ov,.slice (some ⟨wr.heap.size,0,none⟩) 1 1]).run prog (wr.alloc (.cells #[.int .i64 r.k,.int .i64 r.q,.int .i64 r.t,.string r.s,.string r.h,.string r.d] T))=.ok v8 w8/\bT w8 B v8 (out++[r])/\Below B w w8:=by
 subst hT;have hb7:Below wr.heap.size wr (wr.alloc (.cells #[.int .i64 r.k,.int .i64 r.q,.int .i64 r.t,.string r.s,.string r.h,.string r.d] 33)):=(Below.refl _ _).alloc (Nat.le_refl _) _;have h7:=h.below hb7;obtain⟨v8,w8,hrun,A8,C8,_⟩:=iT _ B 25 ov out [r] h7 ⟨wr.heap.size,0,none⟩ 1 (pz wr r) (by simp;omega) (Nat.le_trans hB hb7.size);exact⟨v8,w8,hrun,A8,(hb.trans (hb7.mono hB)).trans (C8.below (Nat.le_trans hB hb7.size) (λk hk z=>by have:=(World.ownsRow.lt h7 k z).1;omega))⟩
theorem Zd {p:Rc->Bool}{l:List Rc}{k:Nat}(h:k<l.length):(l.take (k+1)).filter p=(l.take k).filter p++(if p (rc l k) then [rc l k] else []):=by
 rw[List.take_succ_eq_append_getElem h,<-bG h,List.filter_append];simp only[List.filter_cons,List.filter_nil]
theorem aaj (x0 x1 x2 x3:Value)(W:World):(Instr.field 159 (.agg #[x0,x1,x2,x3]) 0).run prog W=.ok x0 W:=by kernel_rfl
theorem aak (x0 x1 x2 x3:Value)(W:World):(Instr.field 159 (.agg #[x0,x1,x2,x3]) 3).run prog W=.ok x3 W:=by kernel_rfl
theorem rY (a:Act)(v:Value):a.put none v=a:=rfl
theorem oN {w:World}{B c:Nat}{F:Nat->Prop}{s:bD}(r:Rc)(hr:Small r)(h:jm w B c F s)(hk:s.Ok) :
 Calls prog 47 #[.pointer (some ⟨c,0,none⟩),.agg #[.int .i64 r.k,.int .i64 r.q,.int .i64 r.t,.string r.s,.string r.h,.string r.d]] w λe w'=>e=.returned (.int .i64 (bQ s r))/\Below w.heap.size w w':=by
 have hfew:=hk.few;have abd:=hk.last;have hsm:∀x∈s.l,x.s.size<=135:=λx hx=>(hk.small hx).1
 have HS:=aj hsm;obtain⟨a,cap,c0,c1,hcap,hcm,hsl,hcl⟩:=h.read;unfold maxLen at hcm;have zZ:=aj hsl;have HC:Hid (w.cell? ⟨c,0,none⟩=some (.slice a s.l.length cap)/\w.cell? ⟨c,1,none⟩=some (.int .i64 s.last)):=aj ⟨c0,c1⟩;have C1:Hid (∀W,Calls prog 90 #[.agg #[.int .i64 r.k,.int .i64 r.q,.int .i64 r.t,.string r.s,.string r.h,.string r.d]] W λe w'=>e=.returned (.int .i64 (gV r))/\Below W.heap.size W w'):=aj (λW=>Eu r.k r.q r.t r.s r.h r.d W hr.s hr.h hr.d);have R0:=aj (RB.new w r.k r.q r.t r.s r.h r.d 33);have hb0:=aj (((Below.refl w.heap.size w).alloc (Nat.le_refl _) (.cells #[.int .i64 r.k,.int .i64 r.q,.int .i64 r.t,.string r.s,.string r.h,.string r.d] 33)))
 obtain⟨E,hE⟩:∃E,gV r=E:=⟨_,rfl⟩;rw[hE] at C1;have hmm:=@run_makeMap prog;clear h hk hsm hsl c0 c1;by_cases h0:E=0
 ·subst h0;obtain⟨_,x0,x1,x2,x3,x4,x5,_⟩:=ah R0;go_enter func47,ntmps47;go_wp2_with fail;refine(ah C1 _).mono ?_;rintro e w1 ⟨rfl,b1⟩;have R1:=aj ((ah R0).next b1);have B1:=aj (ay (ah hb0) b1);have N1:Hid (∃D,Dw (w1.alloc (.map #[] 0)) w1.heap.size (s.l.take 0) D):=aj ⟨_,Dw.made w1⟩;have L1:=aj (ay (ah B1) ((Below.refl _ w1).alloc (Nat.le_refl _) (.map #[] 0)));have hw1:w.heap.size+1<=w1.heap.size:=by have:=b1.size;simp at this;omega
  clear b1 hb0 C1 x0 x1 x2 x3 x4 x5 R0;go_wp2_with fail;go_loopw [7,8] (λtv iv wr=>∃(k:Nat) (b:Bool),iv=.int .i64 k/\tv=.bool b/\k<=s.l.length/\Hid (b=seqB (s.l.take k) r.q)/\Hid (∃D,Dw wr w1.heap.size (s.l.take k) D)/\Hid (Below w.heap.size w wr)/\Hid (RB wr w.heap.size r.k r.q r.t r.s r.h r.d)) (λ_ iv _=>s.l.length-(intOf iv).toNat)
  case atStart=>exact⟨0,false,rfl,rfl,Nat.zero_le _,aj rfl,N1,L1,aj ((ah R1).alloc _)⟩
  case round =>
   clear N1 L1 R1 B1;obtain⟨k,b,rfl,rfl,hk,HB,⟨D,hN⟩,Hb,HR⟩:=hrel;have hbs:=(ah Hb).size;have c0:=((ah Hb).cell (p:=⟨c,0,none⟩) hcl).trans (ah HC).1;have c1:=((ah Hb).cell (p:=⟨c,1,none⟩) hcl).trans (ah HC).2;obtain⟨_,x0,x1,x2,x3,x4,x5,_⟩:=ah HR;by_cases hlt:k<s.l.length
   ·obtain⟨ga,o,rfl,s6⟩:=ah zZ k hlt;have s7:=s6.below (ah Hb) s6.lt;have hgl:=s6.lt;obtain⟨y,hy⟩:∃y,y=rc s.l k:=⟨_,rfl⟩;have htk:s.l.take (k+1)=s.l.take k++[y]:=by rw[hy,bG hlt];exact List.take_succ_eq_append_getElem hlt
    have hys:y.s.size<=135:=by rw[hy,bG hlt];exact ah HS _ (List.getElem_mem hlt)
    have hsq:=MS hlt r.q;rw[<-hy] at s7 hsq;obtain⟨_,y0,y1,y2,y3,y4,y5⟩:=s7;have hym:y.s.size<=maxLen:=by unfold maxLen;omega
    have hkey:=keyS hym;obtain⟨n,hrun,hat,_⟩:=hN.own.lookup_int MR underlying153 underlying3 (WW _) hkey;have hn:n=(dD (s.l.take k) y.s:Int):=by
     have h1:=hN.at' y.s hym;rw[hat] at h1;simpa using h1
    have hcn:dD (s.l.take k) y.s<=k:=by
     unfold dD;refine Nat.le_trans (List.length_filter_le _ _) ?_;rw[List.length_take];omega
    have hwn:IntKind.i64.wrap (n+1)=n+1:=by rw[IntKind.wrap_i64];omega
    have hwf:(Lit.int .i64 (n+1)).wf=true:=WalkArith.wf_i64 (by omega);have hml:=hN.own.lt;have hlk:(s.l.take k).length<maxLen:=by rw[List.length_take];unfold maxLen;omega
    have HP:Hid (∀w2,w2.ownsMap prog 9 (plainElem prog 3) w1.heap.size ((s.l.take k).length+1) (D.put (kS y.s) (.lit (.int .i64 (n+1))))->wr.grownBy w2 (some w1.heap.size)->w2.cell? ⟨c,0,none⟩=some (.slice (some ⟨ga,o,none⟩) s.l.length cap)/\w2.cell? ⟨w.heap.size,1,none⟩=some (.int .i64 r.q)/\w2.cell? ⟨ga,o+k*6+1,none⟩=some (.int .i64 y.q)/\(∃D',Dw w2 w1.heap.size (s.l.take (k+1)) D')/\Below w.heap.size w w2/\RB w2 w.heap.size r.k r.q r.t r.s r.h r.d):=aj (λw2 ho hg=>by
     have hc:aB (λk=>k=w1.heap.size) wr w2:=(aB.dX hg).mono (λk _ z=>(Option.some.inj z).symm);have e0:=(hc.cell (p:=⟨c,0,none⟩) (show c<wr.heap.size by omega) (show ¬c=w1.heap.size by omega)).trans c0;have e1:=(hc.cell (p:=⟨w.heap.size,1,none⟩) (ah HR).lt (show ¬w.heap.size=w1.heap.size by omega)).trans x1;have e2:=(hc.cell (p:=⟨ga,o+k*6+1,none⟩) (show ga<wr.heap.size by omega) (show ¬ga=w1.heap.size by omega)).trans y1;refine⟨e0,e1,e2,⟨D.put (kS y.s) (.lit (.int .i64 (n+1))),?_⟩,?_,?_⟩
     ·rw[htk];rw[hn] at ho ⊢;exact hN.put y hym ho
     ·exact(ah Hb).trans (hc.below (B:=w.heap.size) (by omega) (λk hk z=>by omega))
     ·exact(ah HR).below (B:=w1.heap.size) (hc.below (by omega) (λk hk z=>by omega)) (by omega))
    have Ze:=aj hsq;have hown:=hN.own;clear hy htk hsq hat hN s6 hn hcn
    cases b with
    | true =>
     go_wp2_with (first
      | (at_mapUpdate;refine wpList_mapUpdate_own _ rfl _ _ _ 153 rfl 9 3 MR underlying153 _ w1.heap.size _ _ rfl hown hlk _ _ _ rfl rfl hkey _ [] (plainElem_int underlying3 hwf) ?_;intro w2 hown2 hgrow2;obtain⟨d0,d1,d2,P2⟩:=ah HP w2 hown2 hgrow2;have HP2:=aj P2;clear P2 hown2 hgrow2)
      | go_in)
     have HB2:Hid (true=seqB (s.l.take (k+1)) r.q):=aj (by rw[ah Ze,<-ah HB];rfl);have N2:Hid (∀q,∃D',Dw (w2.drewN q) w1.heap.size (s.l.take (k+1)) D'):=aj (λq=>by obtain⟨D',x⟩:=(ah HP2).1;exact⟨D',x.drewN q⟩);have B2:Hid (∀q,Below w.heap.size w (w2.drewN q)):=aj (λq=>below_drewN (ah HP2).2.1 q);have R2:Hid (∀q,RB (w2.drewN q) w.heap.size r.k r.q r.t r.s r.h r.d):=aj (λq=>(ah HP2).2.2.next (below_drewN (Below.refl _ _) q));clear HP2 HP HB Ze Hb HR hown hrun hkey;rw[rY];go_quiet (fail)
     go_wp2_with fail;refine⟨⟨k+1,true,by go_num,rfl,by omega,HB2,aj (ah N2 _),aj (ah B2 _),aj (ah R2 _)⟩,?_⟩;simp[intOf];omega
    | false =>
     cases hq:(y.q==r.q) with
     | true =>
      go_wp2_with (first
       | (at_mapUpdate;refine wpList_mapUpdate_own _ rfl _ _ _ 153 rfl 9 3 MR underlying153 _ w1.heap.size _ _ rfl hown hlk _ _ _ rfl rfl hkey _ [] (plainElem_int underlying3 hwf) ?_;intro w2 hown2 hgrow2;obtain⟨d0,d1,d2,P2⟩:=ah HP w2 hown2 hgrow2;have HP2:=aj P2;clear P2 hown2 hgrow2)
       | go_in)
      have HB2:Hid (true=seqB (s.l.take (k+1)) r.q):=aj (by rw[ah Ze,<-ah HB,decide_eq_true (by simpa using hq)];rfl);have N2:Hid (∀q,∃D',Dw (w2.drewN q) w1.heap.size (s.l.take (k+1)) D'):=aj (λq=>by obtain⟨D',x⟩:=(ah HP2).1;exact⟨D',x.drewN q⟩);have B2:Hid (∀q,Below w.heap.size w (w2.drewN q)):=aj (λq=>below_drewN (ah HP2).2.1 q);have R2:Hid (∀q,RB (w2.drewN q) w.heap.size r.k r.q r.t r.s r.h r.d):=aj (λq=>(ah HP2).2.2.next (below_drewN (Below.refl _ _) q));clear HP2 HP HB Ze Hb HR hown hrun hkey;rw[rY];go_quiet (fail)
      go_wp2_with fail;refine⟨⟨k+1,true,by go_num,rfl,by omega,HB2,aj (ah N2 _),aj (ah B2 _),aj (ah R2 _)⟩,?_⟩;simp[intOf];omega
     | false =>
      go_wp2_with (first
       | (at_mapUpdate;refine wpList_mapUpdate_own _ rfl _ _ _ 153 rfl 9 3 MR underlying153 _ w1.heap.size _ _ rfl hown hlk _ _ _ rfl rfl hkey _ [] (plainElem_int underlying3 hwf) ?_;intro w2 hown2 hgrow2;obtain⟨d0,d1,d2,P2⟩:=ah HP w2 hown2 hgrow2;have HP2:=aj P2;clear P2 hown2 hgrow2)
       | go_in)
      have HB2:Hid (false=seqB (s.l.take (k+1)) r.q):=aj (by rw[ah Ze,<-ah HB,decide_eq_false (by simpa using hq)];rfl);have N2:Hid (∀q,∃D',Dw (w2.drewN q) w1.heap.size (s.l.take (k+1)) D'):=aj (λq=>by obtain⟨D',x⟩:=(ah HP2).1;exact⟨D',x.drewN q⟩);have B2:Hid (∀q,Below w.heap.size w (w2.drewN q)):=aj (λq=>below_drewN (ah HP2).2.1 q);have R2:Hid (∀q,RB (w2.drewN q) w.heap.size r.k r.q r.t r.s r.h r.d):=aj (λq=>(ah HP2).2.2.next (below_drewN (Below.refl _ _) q));clear HP2 HP HB Ze Hb HR hown hrun hkey;rw[rY];go_quiet (fail)
      go_wp2_with fail;refine⟨⟨k+1,false,by go_num,rfl,by omega,HB2,aj (ah N2 _),aj (ah B2 _),aj (ah R2 _)⟩,?_⟩;simp[intOf];omega
   ·obtain rfl:k=s.l.length:=by omega
    have HB2:Hid (b=seqB s.l r.q):=aj (by have:=ah HB;rw[List.take_length] at this;exact this);have X6:=hN;rw[List.take_length] at X6;have hrm:r.s.size<=maxLen:=by have:=hr.s;unfold maxLen;omega
    obtain⟨n,hn⟩:∃n:Int,n=(dD s.l r.s:Int):=⟨_,rfl⟩;have HX:Hid (∀q,(Instr.lookup 153 (.map (some w1.heap.size)) (.string r.s) false).run prog (wr.drewN q)=.ok (.int .i64 n) (wr.drewN q)/\∀ty,(Builtin.len_ #[153] ty #[.map (some w1.heap.size)]).run prog (wr.drewN q)=.ok (.int .i64 (dB s.l:Int)) (wr.drewN q)):=aj (λq=>by
     have hq:=X6.drewN q;obtain⟨m,h1,h2,_⟩:=hq.own.lookup_int MR underlying153 underlying3 (WW _) (keyS hrm);have h3:=hq.at' r.s hrm;rw[h2] at h3;have h4:m=n:=by rw[hn];simpa using h3
     rw[h4] at h1;exact⟨h1,λty=>by rw[hq.own.len underlying153 ty,hq.size]⟩)
    have HT:Hid (bQ s r=if r.k=2/\seqB s.l r.q=false then 4 else if r.k≠1 then 0 else if r.q<=s.last then 9 else if 200<=s.l.length\/(dN s.l r.s=false/\100<=dB s.l) then 8 else 0):=aj (by unfold bQ;rw[hE,if_neg (by simp)]);have HH:Hid (dN s.l r.s=decide (0<n)):=aj (by rw[jO,hn];simp);have hn0:0<=n:=by rw[hn];omega
    clear hN X6 hn HB HR;by_cases k2:r.k=2
    ·have e2:(r.k==2)=true:=by simpa using k2
     have e1:(r.k !=1)=true:=by simp[k2]
     cases b with
     | false =>
      have qH:Hid (bQ s r=4):=aj (by rw[ah HT,if_pos ⟨k2,(ah HB2).symm⟩]);go_wp2_with fail;go_ret;rw[ah qH];exact⟨rfl,ah Hb⟩
     | true =>
      have qH:Hid (bQ s r=0):=aj (by rw[ah HT,if_neg (by rw[<-ah HB2];simp),if_pos (by omega)]);go_wp2_with fail;go_ret;rw[ah qH];exact⟨rfl,ah Hb⟩
    ·have e2:(r.k==2)=false:=by simpa using k2
     by_cases k1:r.k=1
     ·have e1:(r.k !=1)=false:=by simp[k1]
      have HT2:Hid (bQ s r=if r.q<=s.last then 9 else if 200<=s.l.length\/(dN s.l r.s=false/\100<=dB s.l) then 8 else 0):=aj (by rw[ah HT,if_neg (λz=>k2 z.1),if_neg (by omega)]);by_cases hq:r.q<=s.last
      ·have qH:Hid (bQ s r=9):=aj (by rw[ah HT2,if_pos hq]);have hd:decide (r.q<=s.last)=true:=decide_eq_true hq;have B2:Hid (∀q,Below w.heap.size w (wr.drewN q)):=aj (λq=>below_drewN (ah Hb) q);go_wp2_with fail;go_quiet (fail)
       go_wp2_with fail;go_ret;rw[ah qH];exact⟨rfl,ah B2 _⟩
      ·have hd:decide (r.q<=s.last)=false:=decide_eq_false hq;have HT3:Hid (bQ s r=if 200<=s.l.length\/(dN s.l r.s=false/\100<=dB s.l) then 8 else 0):=aj (by rw[ah HT2,if_neg hq]);have B2:Hid (∀q,Below w.heap.size w (wr.drewN q)):=aj (λq=>below_drewN (ah Hb) q);by_cases h2:200<=s.l.length
       ·have qH:Hid (bQ s r=8):=aj (by rw[ah HT3,if_pos (.inl h2)]);have hd2:decide ((200:Int)<=(s.l.length:Int))=true:=decide_eq_true (by omega);go_wp2_with fail;go_quiet (fail)
        obtain⟨z1,z2⟩:=ah HX nq;go_wp2_with fail;go_ret;rw[ah qH];exact⟨rfl,ah B2 _⟩
       ·have hd2:decide ((200:Int)<=(s.l.length:Int))=false:=decide_eq_false (by omega);by_cases h3:n=0
        ·have HT4:Hid (bQ s r=if 100<=dB s.l then 8 else 0):=aj (by
          rw[ah HT3];by_cases z:100<=dB s.l
          ·rw[if_pos (.inr ⟨by rw[ah HH,h3];rfl,z⟩),if_pos z]
          ·rw[if_neg (by omega),if_neg z])
         have hd3:(n==0)=true:=by simpa using h3
         by_cases h4:100<=dB s.l
         ·have qH:Hid (bQ s r=8):=aj (by rw[ah HT4,if_pos h4]);have hd4:decide ((100:Int)<=(dB s.l:Int))=true:=decide_eq_true (by omega);go_wp2_with fail;go_quiet (fail)
          obtain⟨z1,z2⟩:=ah HX nq;go_wp2_with fail;go_ret;rw[ah qH];exact⟨rfl,ah B2 _⟩
         ·have qH:Hid (bQ s r=0):=aj (by rw[ah HT4,if_neg h4]);have hd4:decide ((100:Int)<=(dB s.l:Int))=false:=decide_eq_false (by omega);go_wp2_with fail;go_quiet (fail)
          obtain⟨z1,z2⟩:=ah HX nq;go_wp2_with fail;go_ret;rw[ah qH];exact⟨rfl,ah B2 _⟩
        ·have qH:Hid (bQ s r=0):=aj (by
          rw[ah HT3,if_neg];rintro (z|⟨z,_⟩)
          ·exact h2 z
          ·rw[ah HH,decide_eq_true (by omega)] at z;cases z)
         have hd3:(n==0)=false:=by simpa using h3
         go_wp2_with fail;go_quiet (fail)
         obtain⟨z1,z2⟩:=ah HX nq;go_wp2_with fail;go_ret;rw[ah qH];exact⟨rfl,ah B2 _⟩
     ·have e1:(r.k !=1)=true:=by simpa using k1
      have qH:Hid (bQ s r=0):=aj (by rw[ah HT,if_neg (λz=>k2 z.1),if_pos k1]);go_wp2_with fail;go_ret;rw[ah qH];exact⟨rfl,ah Hb⟩
 ·have HR:Hid (bQ s r=E):=aj (by unfold bQ;rw[hE,if_pos h0]);have h1:(E !=0)=true:=by simpa using h0
  obtain⟨_,x0,x1,x2,x3,x4,x5,_⟩:=ah R0;clear hE;go_enter func47,ntmps47;go_wp2_with fail;refine(ah C1 _).mono ?_;rintro e w1 ⟨rfl,b1⟩;have B1:=aj (ay (ah hb0) b1);clear b1 hb0 C1 x0 x1 x2 x3 x4 x5 R0;go_wp2_with fail;go_ret;rw[ah HR];exact⟨rfl,ah B1⟩
theorem uF {P:Program}{ops:Array Oper}{o:Oper}{a:Act}{w:World}{K:Act->World->Prop}{Q:Exit->Act->World->Prop}{E:Prop}
 (hg:o.guard=none) (d x:Operand) (dT sT:TypeId) (hop:o.op=Op.call {callee:=Callee.builtin Builtin.append,args:=#[d,x],argTypes:=#[dT,sT]})
 (v u:Value) (hd:a.eval d=v) (hx:a.eval x=u) {v':Value} {w':World} (hr:(Builtin.append_ #[dT,sT] o.type #[v,u]).run P w=.ok v' w') (hK:K (a.put o.dst v') w') :
 if Region.wanted o (yielded ops a.tmps)=true then Oper.wp P o a w K Q else E:=by
 have hw:Region.wanted o (yielded ops a.tmps)=true:=by simp[Region.wanted,hg]
 rw[if_pos hw];unfold Oper.wp;simp[execOp,hop,resolve,invoke,builtin,hd,hx,hr,Result.andThen];exact hK
theorem ny.below {w w':World}{B c:Nat}{F:Nat->Prop}{s:bD}(h:jm w B c F s)(hb:Below w.heap.size w w'):ny jm w w' B c F s:=⟨F,h.below hb,aB.of_below hb,λ_ hk=>.inl hk⟩
def eP (r:Rc):Obj:=.cells #[.int .i64 r.k,.int .i64 r.q,.int .i64 r.t,.string r.s,.string r.h,.string r.d] 33
theorem QS {w w1:World}{B c:Nat}{F:Nat->Prop}{s:bD}(h:jm w1 B c F s)(hb:Below w.heap.size w w1)(r:Rc)(hl:s.l.length<=200000)(hB:B<=w1.heap.size) :
 ∃a n cp a' n' cp' w8,w1.cell? ⟨c,0,none⟩=some (.slice a n cp)/\(Builtin.append_ #[25,25] 25 #[.slice a n cp,.slice (some ⟨w1.heap.size,0,none⟩) 1 1]).run prog (w1.alloc (eP r))=.ok (.slice a' n' cp') w8/\w8.cell? ⟨c,0,none⟩=some (.slice a n cp)/\w8.frozen? ⟨c,0,none⟩=false/\w8.frozen? ⟨c,1,none⟩=false/\w8.cell? ⟨c,1,none⟩=some (.int .i64 s.last)/\Below w1.heap.size w1 (w1.alloc (eP r))/\(∀k,k<w1.heap.size->¬F k->w8.heap[k]?=w1.heap[k]?)/\ny jm w ((w8.setCell ⟨c,0,none⟩ (.slice a' n' cp')).setCell ⟨c,1,none⟩ (.int .i64 r.q)) B c F ⟨s.l++[r],r.q⟩:=by
 obtain⟨v,h1,h2,h3,h4,h5,h6,h7,h8⟩:=h;have hb7:Below w1.heap.size w1 (w1.alloc (eP r)):=(Below.refl _ _).alloc (Nat.le_refl _) _;have h67:=h6.below hb7;obtain⟨v8,w8,hrun,A8,C8,L8⟩:=iT (w1.alloc (eP r)) B 25 v s.l [r] h67 ⟨w1.heap.size,0,none⟩ 1 (pz w1 r) (by simp;omega) (Nat.le_trans hB hb7.size);obtain⟨a,cp,rfl,_⟩:=h6.shape;obtain⟨a',cp',hv8,_⟩:=A8.shape;obtain⟨n',hn'⟩:∃n',n'=(s.l++[r]).length:=⟨_,rfl⟩;rw[<-hn'] at hv8;subst hv8;have hc7:c<(w1.alloc (eP r)).heap.size:=by have:=h1.2;simp;omega
 have e0:w8.cell? ⟨c,0,none⟩=some (.slice a s.l.length cp):=by rw[C8.cell (p:=⟨c,0,none⟩) hc7 h7,hb7.cell (p:=⟨c,0,none⟩) h1.2];exact h2
 have e1:w8.cell? ⟨c,1,none⟩=some (.int .i64 s.last):=by rw[C8.cell (p:=⟨c,1,none⟩) hc7 h7,hb7.cell (p:=⟨c,1,none⟩) h1.2];exact h3
 have f0:w8.frozen? ⟨c,0,none⟩=false:=by rw[C8.frozen (p:=⟨c,0,none⟩) hc7 h7,hb7.frozen (p:=⟨c,0,none⟩) h1.2];exact h4
 have f1:w8.frozen? ⟨c,1,none⟩=false:=by rw[C8.frozen (p:=⟨c,1,none⟩) hc7 h7,hb7.frozen (p:=⟨c,1,none⟩) h1.2];exact h5
 have hout:∀k,k<w1.heap.size->¬F k->w8.heap[k]?=w1.heap[k]?:=λk hk hn=>by
  rw[C8.block k (by simp;omega) (λz=>hn ((h8 k).2 (.inr z))),hb7.block k hk]
 have hc8:c<w8.heap.size:=Nat.lt_of_lt_of_le hc7 C8.size;have hnc:(Value.slice a' n' cp').ownBlock≠some c:=λz=>by
  rcases L8 c z with y|y
  ·exact h7 y
  ·have:=h1.2;simp at y;omega
 have hS:aB (λk=>k=c) w8 ((w8.setCell ⟨c,0,none⟩ (.slice a' n' cp')).setCell ⟨c,1,none⟩ (.int .i64 r.q)) :=
  (aB.setCell (A:=λk=>k=c) (p:=⟨c,0,none⟩) (aB.refl _ _) (.inl rfl) _).trans (aB.setCell (A:=λk=>k=c) (p:=⟨c,1,none⟩) (aB.refl _ _) (.inl rfl) _)
 have hFc:F c:=(h8 c).2 (.inl rfl);refine⟨a,s.l.length,cp,a',n',cp',w8,h2,hrun,e0,f0,f1,e1,hb7,hout,λk=>k=c\/(Value.slice a' n' cp').ownBlock=some k,⟨.slice a' n' cp',⟨h1.1,Nat.lt_of_lt_of_le hc8 hS.size⟩,?_,?_,?_,?_,A8.aW hS (λg hg z=>hnc (by rw[hg,z])),hnc,λk=>Iff.rfl⟩,?_,λk hk=>?_⟩
 ·rw[World.cell?_setCell_other _ _ _ _ (by simp)];exact World.cell?_setCell_same _ _ _ (by rw[e0])
 ·exact World.cell?_setCell_same _ _ _ (by rw[World.cell?_setCell_other _ _ _ _ (by simp),e1])
 ·rw[World.frozen?_setCell,World.frozen?_setCell];exact f0
 ·rw[World.frozen?_setCell,World.frozen?_setCell];exact f1
 ·exact(((aB.of_below (A:=F) hb).trans (aB.of_below hb7)).more C8 (λi _ z=>(h8 i).2 (.inr z))).more hS (λi _ z=>by subst z;exact hFc)
 ·rcases hk with y|y
  ·subst y;exact .inl hFc
  ·rcases L8 k y with x|x
   ·exact .inl ((h8 k).2 (.inr x))
   ·exact .inr (by have:=hb.size;simp at x;omega)
theorem IC {w:World}{B c:Nat}{F:Nat->Prop}{s:bD}(r:Rc)(hr:Small r)(h:jm w B c F s)(hk:s.Ok){E:Int}(hE:bQ s r=E)(h0:E≠0) :
 Calls prog 9 #[.pointer (some ⟨c,0,none⟩),.agg #[.int .i64 r.k,.int .i64 r.q,.int .i64 r.t,.string r.s,.string r.h,.string r.d]] w λe w'=>e=.returned (.int .i64 E)/\ny jm w w' B c F s:=by
 have hb0:=(((Below.refl w.heap.size w).alloc (Nat.le_refl _) (eP r)));have PT:=aj (oN r hr (h.below hb0) hk);rw[hE] at PT;have HH:=aj h;have B0:=aj hb0;obtain⟨_,x0,x1,x2,x3,x4,x5,_⟩:=RB.new w r.k r.q r.t r.s r.h r.d 33;have h1:(E !=0)=true:=by simpa using h0
 unfold eP at PT B0;clear h hk hE hb0;go_enter func9,ntmps9;go_wp2_with fail;refine(ah PT).mono ?_;rintro e w1 ⟨rfl,b1⟩;have B1:=aj (ay (ah B0) b1);clear b1 PT B0 x0 x1 x2 x3 x4 x5;go_wp2_with fail;go_ret;exact⟨rfl,ny.below (ah HH) (ah B1)⟩
theorem IE {w:World}{B c:Nat}{F:Nat->Prop}{s:bD}(r:Rc)(hr:Small r)(h:jm w B c F s)(hk:s.Ok)(hB:B<=w.heap.size)(hE:bQ s r=0)(h1:r.k=1) :
 Calls prog 9 #[.pointer (some ⟨c,0,none⟩),.agg #[.int .i64 r.k,.int .i64 r.q,.int .i64 r.t,.string r.s,.string r.h,.string r.d]] w λe w'=>e=.returned (.int .i64 0)/\ny jm w w' B c F ⟨s.l++[r],r.q⟩:=by
 have hfew:=hk.few;have hb0:=(((Below.refl w.heap.size w).alloc (Nat.le_refl _) (eP r)));have PT:=aj (oN r hr (h.below hb0) hk);rw[hE] at PT;have hcl:c<w.heap.size:=by obtain⟨_,x,_⟩:=h;exact x.2
 have R0:=aj (RB.new w r.k r.q r.t r.s r.h r.d 33);obtain⟨_,x0,x1,x2,x3,x4,x5,_⟩:=ah R0;have HX:Hid (∀w1,Below w.heap.size w w1->∃a n cp a' n' cp' w8,w1.cell? ⟨c,0,none⟩=some (.slice a n cp)/\(Builtin.append_ #[25,25] 25 #[.slice a n cp,.slice (some ⟨w1.heap.size,0,none⟩) 1 1]).run prog (w1.alloc (eP r))=.ok (.slice a' n' cp') w8/\w8.cell? ⟨c,0,none⟩=some (.slice a n cp)/\w8.frozen? ⟨c,0,none⟩=false/\w8.frozen? ⟨c,1,none⟩=false/\w8.cell? ⟨c,1,none⟩=some (.int .i64 s.last)/\(∀k,k<w1.heap.size->¬F k->w8.heap[k]?=w1.heap[k]?)/\ny jm w ((w8.setCell ⟨c,0,none⟩ (.slice a' n' cp')).setCell ⟨c,1,none⟩ (.int .i64 r.q)) B c F ⟨s.l++[r],r.q⟩):=aj (λw1 hb1=>by
  obtain⟨a,n,cp,a',n',cp',w8,y1,y2,y3,y4,y5,y6,_,y8,y9⟩:=QS (h.below hb1) hb1 r (by omega) (Nat.le_trans hB hb1.size);exact⟨a,n,cp,a',n',cp',w8,y1,y2,y3,y4,y5,y6,y8,y9⟩)
 have HF:Hid (¬F w.heap.size):=aj (λz=>by have:=(h.own _ z).2;omega);have B0:=aj hb0;unfold eP at PT B0;have H1:=aj h1;clear h hk hE hb0 h1;go_enter func9,ntmps9;go_wp2_with fail;refine(ah PT).mono ?_;rintro e w1 ⟨rfl,b1⟩;have b2:=(ay (ah B0) b1).drew;have R1:=((ah R0).next b1).drew;obtain⟨a,n,cp,a',n',cp',w8,y1,y2,y3,y4,y5,y6,y8,y9⟩:=ah HX w1.drew b2;have q1:w8.cell? ⟨w.heap.size,1,none⟩=some (.int .i64 r.q):=(World.cell?_of_block (w:=w1.drew) (y8 w.heap.size R1.lt (ah HF))).trans R1.c1;have Y9:=aj y9;have y1':w1.cell? ⟨c,0,none⟩=some (.slice a n cp):=y1
 obtain⟨_,z0,z1,z2,z3,z4,z5,_⟩:=(ah R0).next b1;have k1:(r.k==1)=true:=by simpa using ah H1
 have y2':(Builtin.append_ #[25,25] 25 #[.slice a n cp,.slice (some ⟨w1.heap.size,0,none⟩) 1 1]).run prog (w1.alloc (eP r)).drew=.ok (.slice a' n' cp') w8:=y2;have aal:(w1.alloc (eP r)).cell? ⟨c,0,none⟩=some (.slice a n cp):=by rw[World.cell?_alloc_lt _ _ _ (show c<w1.heap.size from Nat.lt_of_lt_of_le hcl (ay (ah B0) b1).size)];exact y1
 unfold eP at y2' aal;have Y2:=aj y2';clear b1 b2 y2 y2' y9 HX PT B0 x0 x1 x2 x3 x4 x5 y8 R0;go_wp2_with fail;go_region_law (refine uF rfl _ _ 25 25 rfl (.slice a n cp) _ (by simp[Act.eval]) (by simp[Act.eval]) (ah Y2) ?_)
 all_goals clear Y2 y1 y1' aal z0 z1 z2 z3 z4 z5
 all_goals go_wp2_with fail
 all_goals go_ret
 all_goals exact⟨rfl,ah Y9⟩
theorem Fv {w:World}{B c:Nat}{F:Nat->Prop}{s:bD}(r:Rc)(hr:Small r)(h:jm w B c F s)(hk:s.Ok)(hE:bQ s r=0)(h4:r.k=4) :
 Calls prog 9 #[.pointer (some ⟨c,0,none⟩),.agg #[.int .i64 r.k,.int .i64 r.q,.int .i64 r.t,.string r.s,.string r.h,.string r.d]] w λe w'=>e=.returned (.int .i64 0)/\ny jm w w' B c F ⟨s.l,max s.last r.q⟩:=by
 have hb0:=(((Below.refl w.heap.size w).alloc (Nat.le_refl _) (eP r)));have PT:=aj (oN r hr (h.below hb0) hk);rw[hE] at PT;have R0:=aj (RB.new w r.k r.q r.t r.s r.h r.d 33);obtain⟨_,x0,x1,x2,x3,x4,x5,_⟩:=ah R0;have HX:Hid (∀w1,Below w.heap.size w w1->w1.cell? ⟨c,1,none⟩=some (.int .i64 s.last)/\w1.frozen? ⟨c,1,none⟩=false/\ny jm w (w1.setCell ⟨c,1,none⟩ (.int .i64 (max s.last r.q))) B c F ⟨s.l,max s.last r.q⟩):=aj (λw1 hb1=>by
  obtain⟨v,y1,y2,y3,y4,y5,y6,y7,y8⟩:=h.below hb1;have hS:aB (λk=>k=c) w1 (w1.setCell ⟨c,1,none⟩ (.int .i64 (max s.last r.q))):=aB.setCell (A:=λk=>k=c) (p:=⟨c,1,none⟩) (aB.refl _ _) (.inl rfl) _;refine⟨y3,y5,F,⟨v,⟨y1.1,Nat.lt_of_lt_of_le y1.2 hS.size⟩,?_,?_,?_,?_,y6.aW hS (λg hg z=>y7 (by rw[hg,z])),y7,y8⟩,(aB.of_below (A:=F) hb1).more hS (λi _ z=>by subst z;exact(y8 i).2 (.inl rfl)),λ_ hk=>.inl hk⟩
  ·rw[World.cell?_setCell_other _ _ _ _ (by simp)];exact y2
  ·exact World.cell?_setCell_same _ _ _ (by rw[y3])
  ·rw[World.frozen?_setCell];exact y4
  ·rw[World.frozen?_setCell];exact y5)
 have B0:=aj hb0;unfold eP at PT B0;have H4:=aj h4;clear h hk hE hb0 h4;go_enter func9,ntmps9;go_wp2_with fail;refine(ah PT).mono ?_;rintro e w1 ⟨rfl,b1⟩;obtain⟨y1,y2,y3⟩:=ah HX w1.drew (ay (ah B0) b1).drew;have Y3:=aj y3;have y1':w1.cell? ⟨c,1,none⟩=some (.int .i64 s.last):=y1;have y2':w1.frozen? ⟨c,1,none⟩=false:=y2;obtain⟨_,z0,z1,z2,z3,z4,z5,_⟩:=(ah R0).next b1;have k1:(r.k==1)=false:=by simp[ah H4]
 have k4:(r.k==4)=true:=by simpa using ah H4
 clear b1 y3 HX PT B0 x0 x1 x2 x3 x4 x5 R0;go_wp2_with fail;go_region
 all_goals go_wp2_with fail
 all_goals go_ret
 all_goals exact⟨rfl,ah Y3⟩
theorem CX {r:Rc}(h:gV r=0)(h1:r.k=1):aA false r.s=0:=by
 have e:=kD r.k r.q r.t r.s r.h r.d;have e2:iP r.k r.q r.t r.s r.h r.d=0:=h;rw[e2] at e;by_cases hb:Pk.inB r.k r.q r.t=false
 ·rw[if_pos hb] at e;cases e
 ·rw[if_neg hb,if_pos h1] at e;unfold xu at e;by_cases z:aA false r.s≠0
  ·rw[if_pos z] at e;exact e.symm
  ·exact Classical.byContradiction z
theorem VH {r:Rc}(h:gV r=0)(h1:r.k=3):aA true r.s=0:=by
 have e:=kD r.k r.q r.t r.s r.h r.d;have e2:iP r.k r.q r.t r.s r.h r.d=0:=h;rw[e2] at e;by_cases hb:Pk.inB r.k r.q r.t=false
 ·rw[if_pos hb] at e;cases e
 ·rw[if_neg hb,if_neg (by omega),if_pos h1] at e;unfold xw at e;by_cases z:aA true r.s≠0
  ·rw[if_pos z] at e;exact e.symm
  ·exact Classical.byContradiction z
theorem yw {f s:ByteArray}(hs:aA false s=0):fJ (Pl.toks f) (Pl.toks s)=jr f s:=by
 unfold jr;exact l9 _ _ (λt ht=>(je hs t ht).1)
theorem lF {bF:Bool}{s:ByteArray}(h:aA bF s=0):(Pl.dW s.data.toList).length<=1099511627776:=by
 have:=few h;rw[<-Pl.aT];omega
theorem QT {w wr:World}{B:Nat}{ov:Value}{out:List Rc}(h:bT wr B ov out)(hb:Below B w wr)(r:Rc)(hl:out.length<=200000)(hB:B<=wr.heap.size) :
 ∃v8 w8,(Builtin.append_ #[25,25] 25 #[ov,.slice (some ⟨wr.heap.size,0,none⟩) 1 1]).run prog (wr.alloc (eP r))=.ok v8 w8/\bT w8 B v8 (out++[r])/\Below B w w8:=by
 have hb7:Below wr.heap.size wr (wr.alloc (eP r)):=(Below.refl _ _).alloc (Nat.le_refl _) _;have h7:=h.below hb7;obtain⟨v8,w8,hrun,A8,C8,_⟩:=iT (wr.alloc (eP r)) B 25 ov out [r] h7 ⟨wr.heap.size,0,none⟩ 1 (pz wr r) (by simp;omega) (Nat.le_trans hB hb7.size);exact⟨v8,w8,hrun,A8,(hb.trans (hb7.mono hB)).trans (C8.below (Nat.le_trans hB hb7.size) (λk hk z=>by have:=(World.ownsRow.lt h7 k z).1;omega))⟩
theorem Fz {p:Rc->Bool}{l:List Rc}{k:Nat}(h:k<l.length):(l.take (k+1)).filter p=(l.take k).filter p++(if p (rc l k) then [rc l k] else []):=by
 rw[List.take_succ_eq_append_getElem h,<-bG h,List.filter_append];simp only[List.filter_cons,List.filter_nil]
theorem QU {w w1:World}{B c:Nat}{F:Nat->Prop}{s:bD}(h:jm w B c F s)(hb:Below w.heap.size w w1){lv:Value}{l:List Rc}(ha:bT w1 w.heap.size lv l)(hB:B<=w.heap.size) :
 ∃a n cp,lv=.slice a n cp/\w1.frozen? ⟨c,0,none⟩=false/\ny jm w (w1.setCell ⟨c,0,none⟩ (.slice a n cp)) B c F ⟨l,s.last⟩:=by
 obtain⟨v,y1,y2,y3,y4,y5,y6,y7,y8⟩:=h.below hb;have hcl:c<w.heap.size:=by obtain⟨_,x,_⟩:=h;exact x.2
 obtain⟨a,cp,rfl,_⟩:=ha.shape;have hn:(Value.slice a l.length cp).ownBlock≠some c:=λz=>by have:=(World.ownsRow.lt ha c z).1;omega
 have hS:aB (λk=>k=c) w1 (w1.setCell ⟨c,0,none⟩ (.slice a l.length cp)):=aB.setCell (A:=λk=>k=c) (p:=⟨c,0,none⟩) (aB.refl _ _) (.inl rfl) _;have ha2:bT (w1.setCell ⟨c,0,none⟩ (.slice a l.length cp)) w.heap.size (.slice a l.length cp) l:=ha.aW hS (λg hg z=>hn (by rw[hg,z]));have ha3:bT (w1.setCell ⟨c,0,none⟩ (.slice a l.length cp)) B (.slice a l.length cp) l:=by
  refine⟨ha2.1,?_⟩;rcases ha2.2 with q|⟨g,cap,cur,h1,h2,h3⟩
  ·exact .inl q
  ·exact .inr ⟨g,cap,cur,h1,Nat.le_trans hB h2,h3⟩
 refine⟨a,l.length,cp,rfl,y4,λk=>k=c\/(Value.slice a l.length cp).ownBlock=some k,⟨_,⟨y1.1,Nat.lt_of_lt_of_le y1.2 hS.size⟩,World.cell?_setCell_same _ _ _ (by rw[y2]),?_,?_,?_,ha3,hn,λk=>Iff.rfl⟩,(aB.of_below (A:=F) hb).more hS (λi _ z=>by subst z;exact(y8 i).2 (.inl rfl)),λk hk=>?_⟩
 ·rw[World.cell?_setCell_other _ _ _ _ (by simp)];exact y3
 ·rw[World.frozen?_setCell];exact y4
 ·rw[World.frozen?_setCell];exact y5
 ·rcases hk with z|z
  ·subst z;exact .inl ((y8 k).2 (.inl rfl))
  ·exact .inr (World.ownsRow.lt ha k z).1
theorem FB {w:World}{B c:Nat}{F:Nat->Prop}{s:bD}(r:Rc)(hr:Small r)(h:jm w B c F s)(hk:s.Ok)(hB:B<=w.heap.size)(hE:bQ s r=0)(hc:gV r=0)(hkk:r.k=2\/r.k=3) :
 Calls prog 9 #[.pointer (some ⟨c,0,none⟩),.agg #[.int .i64 r.k,.int .i64 r.q,.int .i64 r.t,.string r.s,.string r.h,.string r.d]] w λe w'=>e=.returned (.int .i64 0)/\ny jm w w' B c F ⟨s.l.filter (λx=>!kE r x),s.last⟩:=by
 have hfew:=hk.few;have hb0:=(((Below.refl w.heap.size w).alloc (Nat.le_refl _) (eP r)));have PT:=aj (oN r hr (h.below hb0) hk);rw[hE] at PT;have R0:=aj (RB.new w r.k r.q r.t r.s r.h r.d 33);obtain⟨_,x0,x1,x2,x3,x4,x5,_⟩:=ah R0;obtain⟨a,cap,c0,_,hcap,hcm,hsl,hcl⟩:=h.read;unfold maxLen at hcm;have zZ:=aj hsl;have HC:=aj c0;have HH:=aj h;have HM:Hid (∀x∈s.l,aA false x.s=0/\x.s.size<=140737488355328):=aj (λx hx=>⟨CX (hk.msg x hx).2 (hk.msg x hx).1,by have:=(hk.small hx).1;omega⟩);have B0:=aj hb0;have HK:=aj hkk;have HCk:=aj hc;have hrs:=hr.s;unfold eP at PT B0
 clear h hk hE hb0 hkk hsl c0 hc;go_enter func9,ntmps9;go_wp2_with fail;refine(ah PT).mono ?_;rintro e w1 ⟨rfl,b1⟩;have B1:=aj (ay (ah B0) b1);have R1:=aj ((ah R0).next b1);have hw1:w.heap.size+1<=w1.heap.size:=by have:=b1.size;simp at this;omega
 obtain⟨_,z0,z1,z2,z3,z4,z5,_⟩:=ah R1;have k1:(r.k==1)=false:=by rcases ah HK with z|z<;>simp[z]
 have k4:(r.k==4)=false:=by rcases ah HK with z|z<;>simp[z]
 clear b1 PT B0 x0 x1 x2 x3 x4 x5 R0;go_wp2_with fail;clear z0 z1 z2 z3 z4 z5;go_loopw [6,7] (λlv iv wr=>∃(k:Nat),iv=.int .i64 k/\k<=s.l.length/\Hid (bT wr w1.heap.size lv ((s.l.take k).filter (λx=>!kE r x))/\Below w1.heap.size w1 wr)) (λ_ iv _=>s.l.length-(intOf iv).toNat)
 case atStart=>exact⟨0,rfl,Nat.zero_le _,aj ⟨bT.empty _ _,Below.refl _ _⟩⟩
 case round =>
  obtain⟨k,rfl,hk,HT⟩:=hrel;have Hb:Hid (Below w.heap.size w wr):=aj ((ah B1).trans ((ah HT).2.mono (by omega)));have c0:=((ah Hb).cell (p:=⟨c,0,none⟩) hcl).trans (ah HC);have hwr:=(ah HT).2.size;by_cases hlt:k<s.l.length
  ·obtain⟨ga,o,rfl,s6⟩:=ah zZ k hlt;obtain⟨y,hy⟩:∃y,y=rc s.l k:=⟨_,rfl⟩;have s7:=s6.below (ah Hb) s6.lt;have hft:=Fz (p:=λx=>!kE r x) hlt;have hm:=ah HM (rc s.l k) (by rw[bG hlt];exact List.getElem_mem hlt);rw[<-hy] at s7 hft hm;obtain⟨_,y0,y1,y2,y3,y4,y5⟩:=s7;have hlen:((s.l.take k).filter (λx=>!kE r x)).length<=200:=by
    refine Nat.le_trans (List.length_filter_le _ _) ?_;rw[List.length_take];omega
   have RX:=aj (RB.new wr y.k y.q y.t y.s y.h y.d 33);have VI:=aj (((ah R1).below (ah HT).2 (show w.heap.size<w1.heap.size by omega)).alloc (eP y));have hbx:Below wr.heap.size wr (wr.alloc (eP y)):=(Below.refl _ _).alloc (Nat.le_refl _) _;have HG:Hid (kE r y=true->∀w3,Below wr.heap.size wr w3->bT w3 w1.heap.size u6 ((s.l.take (k+1)).filter (λx=>!kE r x))/\Below w1.heap.size w1 w3):=aj (λhg w3 hb3=>by
    rw[hft,hg];simp only[Bool.not_true,Bool.false_eq_true,if_false,List.append_nil];exact⟨(ah HT).1.below hb3,(ah HT).2.trans (hb3.mono hwr)⟩)
   have HN:Hid (kE r y=false->∀w3,Below wr.heap.size wr w3->∃v8 w8,(Builtin.append_ #[25,25] 25 #[u6,.slice (some ⟨w3.heap.size,0,none⟩) 1 1]).run prog (w3.alloc (eP y))=.ok v8 w8/\bT w8 w1.heap.size v8 ((s.l.take (k+1)).filter (λx=>!kE r x))/\Below w1.heap.size w1 w8):=aj (λhg w3 hb3=>by
    rw[hft,hg];simp only[Bool.not_false,if_true];exact QT ((ah HT).1.below hb3) ((ah HT).2.trans (hb3.mono hwr)) y (by omega) (Nat.le_trans hwr hb3.size))
   have Hx:=aj hbx;unfold eP at VI Hx HN;have Xb:Hid (kE r y=((decide (r.k=2)&&decide (y.q=r.q))||(decide (r.k=3)&&(decide (y.q<r.q)&&jr r.s y.s)))):=aj rfl;clear s6 hy hft hbx HT Hb;rcases ah HK with hk2|hk3
   ·have e2:(r.k==2)=true:=by simpa using hk2
    have e3:(r.k==3)=false:=by simp[hk2]
    by_cases hq:y.q=r.q
    ·have eq1:(y.q==r.q)=true:=by simpa using hq
     have G1:=aj (ah HG (by rw[ah Xb,decide_eq_true hk2,decide_eq_true hq];rfl) _ (ah Hx));obtain⟨_,q0,q1,q2,q3,q4,q5,_⟩:=ah VI;obtain⟨_,p0,p1,p2,p3,p4,p5,_⟩:=ah RX;clear hk2 hq HG HN Xb VI RX;go_wp2_with fail;refine⟨⟨k+1,by go_num,by omega,G1⟩,?_⟩;simp[intOf];omega
    ·have eq1:(y.q==r.q)=false:=by simpa using hq
     obtain⟨v8,w8,hrun,n8⟩:=ah HN (by rw[ah Xb,decide_eq_true hk2,decide_eq_false hq,decide_eq_false (show ¬r.k=3 by omega)];rfl) _ (ah Hx);have N8:=aj n8;rw[World.size_alloc] at hrun;have yP:=aj hrun;obtain⟨_,q0,q1,q2,q3,q4,q5,_⟩:=ah VI;obtain⟨_,p0,p1,p2,p3,p4,p5,_⟩:=ah RX;clear hk2 hq HG HN Xb hrun n8 VI RX;go_wp2_with (at_builtin;refine Lib.wpList_append_run _ rfl _ _ _ _ rfl _ _ rfl rfl _ _ (ah yP) ?_);refine⟨⟨k+1,by go_num,by omega,N8⟩,?_⟩;simp[intOf];omega
   ·have e2:(r.k==2)=false:=by simp[hk3]
    have e3:(r.k==3)=true:=by simpa using hk3
    have hne2:¬r.k=2:=by omega
    by_cases hq:y.q<r.q
    ·have eq1:decide (y.q<r.q)=true:=decide_eq_true hq;have aam:=VH (ah HCk) hk3;have PK:=aj (qE r.s y.s (wr.alloc (eP y)) hrs hm.2 (lF aam) (lF hm.1));rw[yw hm.1] at PK;have VJ:Hid (kE r y=jr r.s y.s):=aj (by rw[ah Xb,decide_eq_false hne2,decide_eq_true hk3,decide_eq_true hq];simp);unfold eP at PK;obtain⟨_,q0,q1,q2,q3,q4,q5,_⟩:=ah VI;obtain⟨_,p0,p1,p2,p3,p4,p5,_⟩:=ah RX;clear hk3 hq Xb hne2 aam;go_wp2_with fail;refine(ah PK).mono ?_;rintro e w3 ⟨rfl,b3⟩;obtain⟨_,p0,p1,p2,p3,p4,p5,_⟩:=(ah RX).next b3;have B3:=aj (ay (ah Hx) b3)
     clear b3 PK VI RX q0 q1 q2 q3 q4 q5
     cases htk:jr r.s y.s with
     | true =>
      have G1:=aj (ah HG (by rw[ah VJ,htk]) _ (ah B3));clear HG HN VJ htk;go_wp2_with fail;refine⟨⟨k+1,by go_num,by omega,G1⟩,?_⟩;simp[intOf];omega
     | false =>
      obtain⟨v8,w8,hrun,n8⟩:=ah HN (by rw[ah VJ,htk]) _ (ah B3);have N8:=aj n8;have yP:=aj hrun;clear HG HN VJ htk hrun n8;go_wp2_with (at_builtin;refine Lib.wpList_append_run _ rfl _ _ _ _ rfl _ _ rfl rfl _ _ (ah yP) ?_);refine⟨⟨k+1,by go_num,by omega,N8⟩,?_⟩;simp[intOf];omega
    ·have eq1:decide (y.q<r.q)=false:=decide_eq_false hq;obtain⟨v8,w8,hrun,n8⟩:=ah HN (by rw[ah Xb,decide_eq_false hne2,decide_eq_true hk3,decide_eq_false hq];rfl) _ (ah Hx);have N8:=aj n8;rw[World.size_alloc] at hrun;have yP:=aj hrun;obtain⟨_,q0,q1,q2,q3,q4,q5,_⟩:=ah VI;obtain⟨_,p0,p1,p2,p3,p4,p5,_⟩:=ah RX;clear hk3 hq HG HN Xb hrun n8 hne2 VI RX;go_wp2_with (at_builtin;refine Lib.wpList_append_run _ rfl _ _ _ _ rfl _ _ rfl rfl _ _ (ah yP) ?_);refine⟨⟨k+1,by go_num,by omega,N8⟩,?_⟩;simp[intOf];omega
  ·obtain rfl:k=s.l.length:=by omega
   have h3:=ah HT;rw[List.take_length] at h3;have h4:bT wr w.heap.size u6 (s.l.filter (λx=>!kE r x)):=by
    refine⟨h3.1.1,?_⟩;rcases h3.1.2 with q|⟨g,cap,cur,x1,x2,x3⟩
    ·exact .inl q
    ·exact .inr ⟨g,cap,cur,x1,Nat.le_trans (by omega) x2,x3⟩
   obtain⟨a',n',cp',rfl,f0,d0⟩:=QU (ah HH) (ah Hb) h4 hB;have D0:=aj d0;clear h3 h4 d0 HT;go_wp2_with fail;go_ret;exact⟨rfl,ah D0⟩
theorem QV {s:bD}{r:Rc}(h:bQ s r=0):gV r=0:=by
 apply Classical.byContradiction;intro z;unfold bQ at h;rw[if_pos z] at h;exact z h
theorem yx {w:World}{B c:Nat}{F:Nat->Prop}{s:bD}(r:Rc)(hr:Small r)(h:jm w B c F s)(hk:s.Ok)(hB:B<=w.heap.size) :
 Calls prog 9 #[.pointer (some ⟨c,0,none⟩),.agg #[.int .i64 r.k,.int .i64 r.q,.int .i64 r.t,.string r.s,.string r.h,.string r.d]] w λe w'=>e=.returned (.int .i64 (bQ s r))/\ny jm w w' B c F (gW s r):=by
 by_cases h0:bQ s r=0
 ·have hc:=QV h0;obtain⟨k1,k2,_⟩:=Pk.lT (r:=r.pk) hc;have k1':1<=r.k:=k1;have k2':r.k<=4:=k2;unfold gW;rw[h0,if_neg (by simp)];by_cases e1:r.k=1
  ·rw[if_pos e1];exact IE r hr h hk hB h0 e1
  ·rw[if_neg e1];by_cases e4:r.k=4
   ·rw[if_pos e4];exact Fv r hr h hk h0 e4
   ·rw[if_neg e4];exact FB r hr h hk hB h0 hc (by omega)
 ·unfold gW;rw[if_pos h0];exact IC r hr h hk rfl h0
theorem Nq {l:List Rc}{n:Int}(h:∀k,k<l.length->¬(rc l k).q=n):jw l n=none:=by
 unfold jw;rw[List.find?_eq_none];intro x hx;obtain⟨j,hj,e⟩:=List.getElem_of_mem hx;have:=h j hj;rw[bG hj,e] at this;simpa using this
theorem get_some {l:List Rc}{n:Int}{k:Nat}(hk:k<l.length)(h:∀j,j<k->¬(rc l j).q=n)(hq:(rc l k).q=n):jw l n=some (rc l k):=by
 unfold jw;rw[List.find?_eq_some_iff_append];refine⟨by simpa using hq,l.take k,l.drop (k+1),?_,?_⟩
 ·rw[bG hk,<-List.drop_eq_getElem_cons hk,List.take_append_drop]
 ·intro x hx;obtain⟨j,hj,e⟩:=List.getElem_of_mem hx;rw[List.length_take] at hj;have:=h j (by omega);rw[bG (by omega)] at this;rw[List.getElem_take] at e;rw[e] at this;simpa using this
theorem FC {w:World}{B c:Nat}{F:Nat->Prop}{s:bD}(n:Int)(h:jm w B c F s)(hk:s.Ok) :
 Calls prog 59 #[.pointer (some ⟨c,0,none⟩),.int .i64 n] w λe w'=>e=.returned (MB (jw s.l n))/\Below w.heap.size w w':=by
 have hfew:=hk.few;obtain⟨a,cap,c0,_,hcap,hcm,hsl,hcl⟩:=h.read;unfold maxLen at hcm;have zZ:=aj hsl;have HC:=aj c0;have R0:=aj (RB.new w 0 0 0 ⟨#[]⟩ ⟨#[]⟩ ⟨#[]⟩ 33);have B0:=aj ((Below.refl w.heap.size w).alloc (Nat.le_refl _) (.cells #[.int .i64 0,.int .i64 0,.int .i64 0,.string ⟨#[]⟩,.string ⟨#[]⟩,.string ⟨#[]⟩] 33));clear h hk hsl c0;go_enter func59,ntmps59;go_wp2_with fail;obtain⟨w0,hw0⟩:∃w0,w0=w.alloc (.cells #[.int .i64 0,.int .i64 0,.int .i64 0,.string ⟨#[]⟩,.string ⟨#[]⟩,.string ⟨#[]⟩] 33):=⟨_,rfl⟩;go_loopw [6] (λiv wr=>∃(k:Nat),iv=.int .i64 k/\k<=s.l.length/\Hid (∀j,j<k->¬(rc s.l j).q=n)/\Hid (RB wr w.heap.size 0 0 0 ⟨#[]⟩ ⟨#[]⟩ ⟨#[]⟩/\Below w.heap.size w wr)) (λiv _=>s.l.length-(intOf iv).toNat)
 case atStart=>exact⟨0,rfl,Nat.zero_le _,aj (λj hj=>absurd hj (Nat.not_lt_zero j)),aj ⟨ah R0,ah B0⟩⟩
 case round =>
  clear R0 B0 hw0;obtain⟨k,rfl,hk,HQ,HT⟩:=hrel;have c0:=((ah HT).2.cell (p:=⟨c,0,none⟩) hcl).trans (ah HC);by_cases hlt:k<s.l.length
  ·obtain⟨ga,o,rfl,s6⟩:=ah zZ k hlt;obtain⟨y,hy⟩:∃y,y=rc s.l k:=⟨_,rfl⟩;have s7:=s6.below (ah HT).2 s6.lt;rw[<-hy] at s7;obtain⟨_,y0,y1,y2,y3,y4,y5⟩:=s7;by_cases hq:y.q=n
   ·have e1:(y.q==n)=true:=by simpa using hq
    have HR:Hid (jw s.l n=some y):=aj (by rw[hy];exact get_some hlt (ah HQ) (by rw[<-hy];exact hq));obtain⟨_,x0,x1,x2,x3,x4,x5,fr⟩:=(ah HT).1;have f0:=fr 0;have f1:=fr 1;have f2:=fr 2;have f3:=fr 3;have f4:=fr 4;have f5:=fr 5;clear hy hq s6 HQ fr;go_wp2_with fail;refine bodyPost_ret (dF rfl rfl ((ah HT).1.dZ _ _ _ _ _ _)) rfl ?_;exact⟨by rw[ah HR];rfl,dK (ah HT).2 (Nat.le_refl _)⟩
   ·have e1:(y.q==n)=false:=by simpa using hq
    have HQ2:Hid (∀j,j<k+1->¬(rc s.l j).q=n):=aj (λj hj=>by
     by_cases z:j<k
     ·exact ah HQ j z
     ·obtain rfl:j=k:=by omega
      rw[<-hy];exact hq)
    clear hy hq s6;go_wp2_with fail;refine⟨⟨k+1,by go_num,by omega,HQ2,HT⟩,?_⟩;simp[intOf];omega
  ·obtain rfl:k=s.l.length:=by omega
   have HR:Hid (jw s.l n=none):=aj (Nq (ah HQ));obtain⟨_,x0,x1,x2,x3,x4,x5,fr⟩:=(ah HT).1;have f0:=fr 0;have f1:=fr 1;have f2:=fr 2;have f3:=fr 3;have f4:=fr 4;have f5:=fr 5;clear HQ fr;go_wp2_with fail;refine bodyPost_ret (dF rfl rfl ((ah HT).1.dZ _ _ _ _ _ _)) rfl ?_;exact⟨by rw[ah HR];rfl,dK (ah HT).2 (Nat.le_refl _)⟩
def eU (f:ByteArray)(fr:Int)(last:Bool):List Rc->Option Rc->Option Rc
 | [],o=>o
 | x::l,o=>eU f fr last l (if (decide (fr<=x.q)&&jr f x.s)&&(last||o.isNone) then some x else o)
theorem sK (f:ByteArray)(fr:Int)(last:Bool):∀(a b:List Rc) (o:Option Rc),eU f fr last (a++b) o=eU f fr last b (eU f fr last a o)
 | [],_,_=>rfl
 | x::a,b,o=>by rw[List.cons_append,eU,eU,sK f fr last a b]
theorem IG (f:ByteArray)(fr:Int)(last:Bool){l:List Rc}{k:Nat}(h:k<l.length):eU f fr last (l.take (k+1)) none=if (decide (fr<=(rc l k).q)&&jr f (rc l k).s)&&(last||(eU f fr last (l.take k) none).isNone) then some (rc l k) else eU f fr last (l.take k) none:=by
 rw[List.take_succ_eq_append_getElem h,<-bG h,sK];rfl
theorem yA (f:ByteArray)(fr:Int):∀(l:List Rc) (x:Rc),eU f fr false l (some x)=some x
 | [],_=>rfl
 | y::l,x=>by rw[eU];simp[yA f fr l x]
theorem Ae (f:ByteArray)(fr:Int):∀l:List Rc,eU f fr false l none=aX f l fr
 | []=>rfl
 | x::l=>by
  unfold aX;rw[eU,List.find?_cons];by_cases h:(decide (fr<=x.q)&&jr f x.s)=true
  ·have h2:(jr f x.s&&decide (fr<=x.q))=true:=by rw[Bool.and_comm];exact h
   rw[h,h2];simp[yA]
  ·have h':(decide (fr<=x.q)&&jr f x.s)=false:=by simpa using h
   have h2:(jr f x.s&&decide (fr<=x.q))=false:=by rw[Bool.and_comm];exact h'
   rw[h',h2];simp only[Bool.false_and,Bool.false_eq_true,if_false];rw[Ae f fr l];rfl
theorem qj (f:ByteArray)(fr:Int):∀(l:List Rc) (o:Option Rc),(∀x∈l,fr<=x.q)->eU f fr true l o=((jP f l).getLast?).or o
 | [],o,_=>by simp[eU,jP]
 | x::l,o,h=>by
  have hx:decide (fr<=x.q)=true:=decide_eq_true (h x (by simp));rw[eU,qj f fr l _ (λy hy=>h y (by simp[hy])),hx];unfold jP;rw[List.filter_cons]
  cases jr f x.s
  ·simp
  ·simp only[Bool.and_self,Bool.true_or,if_true];rw[List.getLast?_cons]
   cases (List.filter (λr=>jr f r.s) l).getLast?<;>simp
theorem Ns {s:bD}(h:s.Ok)(f:ByteArray):eU f 0 true s.l none=iL f s.l:=by
 rw[qj f 0 s.l none (λx hx=>by have:=(h.seq hx).1;omega)];unfold iL;simp
def KD (o:Option Rc):Rc:=o.getD cu
def orE (o:Option Rc):Int:=if o.isSome then 0 else 4
theorem VK (o:Option Rc):MB o=.tuple #[UM (KD o),.int .i64 (orE o)]:=by cases o<;>rfl
theorem Af {w:World}{B c:Nat}{F:Nat->Prop}{s:bD}(f:ByteArray)(fr:Int)(last:Bool)(hf:f.size<=140737488355328)(h:jm w B c F s)(hk:s.Ok) :
 Calls prog 55 #[.pointer (some ⟨c,0,none⟩),.string f,.int .i64 fr,.bool last] w λe w'=>e=.returned (dS f (eU f fr last s.l none))/\Below w.heap.size w w':=by
 have hfew:=hk.few;obtain⟨a,cap,c0,_,hcap,hcm,hsl,hcl⟩:=h.read;unfold maxLen at hcm;have zZ:=aj hsl;have HC:=aj c0;have HM:Hid (∀x∈s.l,aA false x.s=0/\x.s.size<=140737488355328):=aj (λx hx=>⟨CX (hk.msg x hx).2 (hk.msg x hx).1,by have:=(hk.small hx).1;omega⟩);have R0:=aj (RB.new w 0 0 0 ⟨#[]⟩ ⟨#[]⟩ ⟨#[]⟩ 33);have B0:=aj ((Below.refl w.heap.size w).alloc (Nat.le_refl _) (.cells #[.int .i64 0,.int .i64 0,.int .i64 0,.string ⟨#[]⟩,.string ⟨#[]⟩,.string ⟨#[]⟩] 33));have PF:=aj (oq f (w.alloc (.cells #[.int .i64 0,.int .i64 0,.int .i64 0,.string ⟨#[]⟩,.string ⟨#[]⟩,.string ⟨#[]⟩] 33)) hf)
 obtain⟨E,hE⟩:∃E,aA true f=E:=⟨_,rfl⟩;rw[hE] at PF;clear h hk hsl c0;by_cases h0:E=0
 ·have HF:Hid (aA true f=0):=aj (by rw[hE];exact h0);subst h0;clear hE;go_enter func55,ntmps55;go_wp2_with fail;refine(ah PF).mono ?_;rintro e w1 ⟨rfl,b1⟩;have hw1:w.heap.size+1<=w1.heap.size:=by have:=b1.size;simp at this;omega
  have R1:=aj ((ah R0).next b1);have B1:=aj (ay (ah B0) b1);have L1:Hid (RB (w1.alloc (.cells #[.int .i64 0,.int .i64 0,.int .i64 0,.string ⟨#[]⟩,.string ⟨#[]⟩,.string ⟨#[]⟩] 33)) w.heap.size 0 0 0 ⟨#[]⟩ ⟨#[]⟩ ⟨#[]⟩/\RB (w1.alloc (.cells #[.int .i64 0,.int .i64 0,.int .i64 0,.string ⟨#[]⟩,.string ⟨#[]⟩,.string ⟨#[]⟩] 33)) w1.heap.size 0 0 0 ⟨#[]⟩ ⟨#[]⟩ ⟨#[]⟩/\Below w.heap.size w (w1.alloc (.cells #[.int .i64 0,.int .i64 0,.int .i64 0,.string ⟨#[]⟩,.string ⟨#[]⟩,.string ⟨#[]⟩] 33))):=aj ⟨(ah R1).alloc _,RB.new w1 0 0 0 _ _ _ _,ay (ah B1) ((Below.refl _ w1).alloc (Nat.le_refl _) _)⟩
  clear b1 PF R0 B0 R1 B1;go_wp2_with fail;go_loopw [12,13] (λev iv wr=>∃(k:Nat) (o:Option Rc),iv=.int .i64 k/\ev=.int .i64 (orE o)/\k<=s.l.length/\Hid (o=eU f fr last (s.l.take k) none)/\Hid (RB wr w.heap.size 0 0 0 ⟨#[]⟩ ⟨#[]⟩ ⟨#[]⟩/\RB wr w1.heap.size (KD o).k (KD o).q (KD o).t (KD o).s (KD o).h (KD o).d/\Below w.heap.size w wr)) (λ_ iv _=>s.l.length-(intOf iv).toNat)
  case atStart=>exact⟨0,none,rfl,rfl,Nat.zero_le _,aj rfl,L1⟩
  case round =>
   clear L1;obtain⟨k,o,rfl,rfl,hk,HO,HT⟩:=hrel;have c0:=((ah HT).2.2.cell (p:=⟨c,0,none⟩) hcl).trans (ah HC);by_cases hlt:k<s.l.length
   ·obtain⟨ga,oo,rfl,s6⟩:=ah zZ k hlt;obtain⟨y,hy⟩:∃y,y=rc s.l k:=⟨_,rfl⟩;have s7:=s6.below (ah HT).2.2 s6.lt;have hm:=ah HM (rc s.l k) (by rw[bG hlt];exact List.getElem_mem hlt);have hst:=IG f fr last hlt;rw[<-ah HO,<-hy] at hst;rw[<-hy] at s7 hm;have sN:=aj hst;obtain⟨_,y0,y1,y2,y3,y4,y5⟩:=s7;have hgl:ga<wr.heap.size:=Nat.lt_of_lt_of_le s6.lt (ah HT).2.2.size;clear hy hst s6;by_cases hq:fr<=y.q
    ·have eq1:decide (fr<=y.q)=true:=decide_eq_true hq;have PK:=aj (qE f y.s wr hf hm.2 (lF (ah HF)) (lF hm.1));rw[yw hm.1] at PK;go_wp2_with fail;refine(ah PK).mono ?_;rintro e w3 ⟨rfl,b3⟩;have T3:Hid (RB w3 w.heap.size 0 0 0 ⟨#[]⟩ ⟨#[]⟩ ⟨#[]⟩/\RB w3 w1.heap.size (KD o).k (KD o).q (KD o).t (KD o).s (KD o).h (KD o).d/\Below w.heap.size w w3):=aj ⟨(ah HT).1.next b3,(ah HT).2.1.next b3,ay (ah HT).2.2 b3⟩;have d0:=((ah T3).2.2.cell (p:=⟨c,0,none⟩) hcl).trans (ah HC);have g0:=(b3.cell (p:=⟨ga,oo+k*6,none⟩) hgl).trans y0;have g1:=(b3.cell (p:=⟨ga,oo+k*6+1,none⟩) hgl).trans y1
     have g2:=(b3.cell (p:=⟨ga,oo+k*6+2,none⟩) hgl).trans y2;have g3:=(b3.cell (p:=⟨ga,oo+k*6+3,none⟩) hgl).trans y3;have g4:=(b3.cell (p:=⟨ga,oo+k*6+4,none⟩) hgl).trans y4;have g5:=(b3.cell (p:=⟨ga,oo+k*6+5,none⟩) hgl).trans y5;have hne:w1.heap.size≠w.heap.size:=by omega
     clear b3 PK y0 y1 y2 y3 y4 y5 HT c0
     cases htk:jr f y.s with
     | false =>
      have VL:Hid (o=eU f fr last (s.l.take (k+1)) none):=aj (by rw[ah sN,htk];simp);clear htk sN HO;go_wp2_with fail;refine⟨⟨k+1,o,by go_num,rfl,by omega,VL,T3⟩,?_⟩;simp[intOf];omega
     | true =>
      cases last with
      | true =>
       have VL:Hid (some y=eU f fr true (s.l.take (k+1)) none):=aj (by rw[ah sN,htk,eq1];simp);clear htk sN HO;obtain⟨_,p0,p1,p2,p3,p4,p5,fz⟩:=(ah T3).2.1;have f0:=fz 0;have f1:=fz 1;have f2:=fz 2;have f3:=fz 3;have f4:=fz 4;have f5:=fz 5;clear fz;go_wp2_with fail;refine⟨⟨k+1,some y,by go_num,rfl,by omega,VL,aj ⟨((((((ah T3).1.other hne).other hne).other hne).other hne).other hne).other hne,(ah T3).2.1.dZ _ _ _ _ _ _,dK (ah T3).2.2 (by omega)⟩⟩,?_⟩;simp[intOf];omega
      | false =>
       cases o with
       | none =>
        have VL:Hid (some y=eU f fr false (s.l.take (k+1)) none):=aj (by rw[ah sN,htk,eq1];simp);have e4:orE none=4:=rfl;clear htk sN HO;rw[e4];obtain⟨_,p0,p1,p2,p3,p4,p5,fz⟩:=(ah T3).2.1;have f0:=fz 0;have f1:=fz 1;have f2:=fz 2;have f3:=fz 3;have f4:=fz 4;have f5:=fz 5;clear fz;go_wp2_with fail;refine⟨⟨k+1,some y,by go_num,rfl,by omega,VL,aj ⟨((((((ah T3).1.other hne).other hne).other hne).other hne).other hne).other hne,(ah T3).2.1.dZ _ _ _ _ _ _,dK (ah T3).2.2 (by omega)⟩⟩,?_⟩;simp[intOf];omega
       | some z =>
        have VL:Hid (some z=eU f fr false (s.l.take (k+1)) none):=aj (by rw[ah sN,htk,eq1];simp);have e4:orE (some z)=0:=rfl;clear htk sN HO;rw[e4];go_wp2_with fail;refine⟨⟨k+1,some z,by go_num,rfl,by omega,VL,T3⟩,?_⟩;simp[intOf];omega
    ·have eq1:decide (fr<=y.q)=false:=decide_eq_false hq;have VL:Hid (o=eU f fr last (s.l.take (k+1)) none):=aj (by rw[ah sN,eq1];simp);clear hq sN HO;go_wp2_with fail;refine⟨⟨k+1,o,by go_num,rfl,by omega,VL,HT⟩,?_⟩;simp[intOf];omega
   ·obtain rfl:k=s.l.length:=by omega
    have HR:Hid (dS f (eU f fr last s.l none)=.tuple #[UM (KD o),.int .i64 (orE o)]):=aj (by
     have h1:=ah HO;rw[List.take_length] at h1;unfold dS;rw[if_pos (ah HF),<-h1,VK])
    obtain⟨_,x0,x1,x2,x3,x4,x5,fz⟩:=(ah HT).1;obtain⟨_,p0,p1,p2,p3,p4,p5,_⟩:=(ah HT).2.1;have f0:=fz 0;have f1:=fz 1;have f2:=fz 2;have f3:=fz 3;have f4:=fz 4;have f5:=fz 5;clear HO fz;go_wp2_with fail;refine bodyPost_ret (dF rfl rfl ((ah HT).1.dZ _ _ _ _ _ _)) rfl ?_;exact⟨by rw[ah HR];rfl,dK (ah HT).2.2 (Nat.le_refl _)⟩
 ·have HR:Hid (dS f (eU f fr last s.l none)=.tuple #[UM cu,.int .i64 E]):=aj (by unfold dS;rw[hE,if_neg h0]);have h1:(E !=0)=true:=by simpa using h0
  clear hE;go_enter func55,ntmps55;go_wp2_with fail;refine(ah PF).mono ?_;rintro e w1 ⟨rfl,b1⟩;have R1:=aj ((ah R0).next b1);have B1:=aj (ay (ah B0) b1);obtain⟨_,x0,x1,x2,x3,x4,x5,fz⟩:=ah R1;have f0:=fz 0;have f1:=fz 1;have f2:=fz 2;have f3:=fz 3;have f4:=fz 4;have f5:=fz 5;clear b1 PF R0 B0 fz;go_wp2_with fail;refine bodyPost_ret (dF rfl rfl ((ah R1).dZ _ _ _ _ _ _)) rfl ?_;exact⟨by rw[ah HR];rfl,dK (ah B1) (Nat.le_refl _)⟩
def Pair (SH:World->Nat->Nat->(Nat->Prop)->bD->Prop)(w W:World)(q c:Nat)(s s':bD):Prop:=∃F G,SH W w.heap.size q F s/\jm W w.heap.size c G s'/\(∀k,F k->¬G k)/\Below w.heap.size w W
def iG (SH:World->Nat->Nat->(Nat->Prop)->bD->Prop)(w W:World)(q c:Nat)(s s':bD)(b:Nat)(r:Rc):Prop:=∃F G,SH W w.heap.size q F s/\jm W w.heap.size c G s'/\(∀k,F k->¬G k)/\Below w.heap.size w W/\RB W b r.k r.q r.t r.s r.h r.d/\¬F b/\¬G b
theorem KE {w w':World}{b:Nat}{k q t:Int}{s h d:ByteArray}{A:Nat->Prop}(r:RB w b k q t s h d)(hc:aB A w w')(hn:¬A b):RB w' b k q t s h d :=
 ⟨Nat.lt_of_lt_of_le r.lt hc.size,by rw[hc.cell (p:=⟨b,0,none⟩) r.lt hn];exact r.c0,by rw[hc.cell (p:=⟨b,1,none⟩) r.lt hn];exact r.c1,by rw[hc.cell (p:=⟨b,2,none⟩) r.lt hn];exact r.c2,by rw[hc.cell (p:=⟨b,3,none⟩) r.lt hn];exact r.c3,by rw[hc.cell (p:=⟨b,4,none⟩) r.lt hn];exact r.c4,by rw[hc.cell (p:=⟨b,5,none⟩) r.lt hn];exact r.c5,λj=>by rw[hc.frozen (p:=⟨b,j,none⟩) r.lt hn];exact r.fr j⟩
section
variable {SH:World->Nat->Nat->(Nat->Prop)->bD->Prop}{w W W':World}{q c b:Nat}{s s':bD}{r:Rc}
theorem Pair.box (H:aS SH)(h:Pair SH w W q c s s')(r:Rc):iG SH w (W.alloc (.cells #[.int .i64 r.k,.int .i64 r.q,.int .i64 r.t,.string r.s,.string r.h,.string r.d] 33)) q c s s' W.heap.size r:=by
 obtain⟨F,G,h1,h2,h3,h4⟩:=h;have hb:Below W.heap.size W (W.alloc (.cells #[.int .i64 r.k,.int .i64 r.q,.int .i64 r.t,.string r.s,.string r.h,.string r.d] 33)):=(Below.refl _ _).alloc (Nat.le_refl _) _;exact⟨F,G,H.aW (A:=λ_=>False) h1 (aB.of_below hb) (λ_ _ z=>z),h2.below hb,h3,ay h4 hb,RB.new W _ _ _ _ _ _ _,λz=>by have:=(H.own h1 _ z).2;omega,λz=>by have:=(h2.own _ z).2;omega⟩
theorem iG.next (H:aS SH)(h:iG SH w W q c s s' b r)(hb:Below W.heap.size W W'):iG SH w W' q c s s' b r:=by
 obtain⟨F,G,h1,h2,h3,h4,h5,h6,h7⟩:=h;exact⟨F,G,H.aW (A:=λ_=>False) h1 (aB.of_below hb) (λ_ _ z=>z),h2.below hb,h3,ay h4 hb,h5.next hb,h6,h7⟩
theorem iG.rb (h:iG SH w W q c s s' b r):RB W b r.k r.q r.t r.s r.h r.d:=by
 obtain⟨F,G,h1,h2,h3,h4,h5,h6,h7⟩:=h;exact h5
theorem iG.pair (h:iG SH w W q c s s' b r):Pair SH w W q c s s':=by
 obtain⟨F,G,h1,h2,h3,h4,h5,h6,h7⟩:=h;exact⟨F,G,h1,h2,h3,h4⟩
theorem iG.tries (H:aS SH)(HY:EK SH)(h:iG SH w W q c s s' b r)(hk:s.Ok)(x:Rc)(hx:Small x) :
 Calls prog 43 #[.pointer (some ⟨q,0,none⟩),.agg #[.int .i64 x.k,.int .i64 x.q,.int .i64 x.t,.string x.s,.string x.h,.string x.d]] W λe w'=>e=.returned (.int .i64 (bQ s x))/\iG SH w w' q c s s' b r:=by
 obtain⟨F,G,h1,h2,h3,h4,h5,h6,h7⟩:=id h;refine(HY.tries x hx h1 hk h4.size).mono ?_;rintro e w' ⟨he,hb⟩;exact⟨he,h.next H hb⟩
theorem iG.abe (H:aS SH)(h:iG SH w W q c s s' b r)(hk:s'.Ok)(x:Rc)(hx:Small x) :
 Calls prog 47 #[.pointer (some ⟨c,0,none⟩),.agg #[.int .i64 x.k,.int .i64 x.q,.int .i64 x.t,.string x.s,.string x.h,.string x.d]] W λe w'=>e=.returned (.int .i64 (bQ s' x))/\iG SH w w' q c s s' b r:=by
 obtain⟨F,G,h1,h2,h3,h4,h5,h6,h7⟩:=id h;refine(oN x hx h2 hk).mono ?_;rintro e w' ⟨he,hb⟩;exact⟨he,h.next H hb⟩
theorem iG.apply (H:aS SH)(h:iG SH w W q c s s' b r)(hk:s.Ok)(x:Rc)(hx:Small x) :
 Calls prog 8 #[.pointer (some ⟨q,0,none⟩),.agg #[.int .i64 x.k,.int .i64 x.q,.int .i64 x.t,.string x.s,.string x.h,.string x.d]] W λe w'=>e=.returned (.int .i64 (bQ s x))/\iG SH w w' q c (gW s x) s' b r:=by
 obtain⟨F,G,h1,h2,h3,h4,h5,h6,h7⟩:=h;refine(H.apply x hx h1 hk h4.size).mono ?_;rintro e w' ⟨he,F',a1,a2,a3⟩;refine⟨he,F',G,a1,h2.aW a2 (λk hk z=>h3 k z hk),λk hk z=>?_,h4.trans (a2.below h4.size (λk hk z=>by have:=(H.own h1 k z).1;omega)),KE h5 a2 h6,λz=>?_,h7⟩
 ·rcases a3 k hk with y|y
  ·exact h3 k y z
  ·have:=(h2.own k z).2;omega
 ·rcases a3 b z with y|y
  ·exact h6 y
  ·have:=h5.lt;omega
theorem iG.Yh (H:aS SH)(h:iG SH w W q c s s' b r)(hk:s'.Ok)(x:Rc)(hx:Small x) :
 Calls prog 9 #[.pointer (some ⟨c,0,none⟩),.agg #[.int .i64 x.k,.int .i64 x.q,.int .i64 x.t,.string x.s,.string x.h,.string x.d]] W λe w'=>e=.returned (.int .i64 (bQ s' x))/\iG SH w w' q c s (gW s' x) b r:=by
 obtain⟨F,G,h1,h2,h3,h4,h5,h6,h7⟩:=h;refine(yx x hx h2 hk h4.size).mono ?_;rintro e w' ⟨he,G',a1,a2,a3⟩;refine⟨he,F,G',H.aW h1 a2 (λk hk z=>h3 k hk z),a1,λk hk z=>?_,h4.trans (a2.below h4.size (λk hk z=>by have:=(h2.own k z).1;omega)),KE h5 a2 h7,h6,λz=>?_⟩
 ·rcases a3 k z with y|y
  ·exact h3 k hk y
  ·have:=(H.own h1 k hk).2;omega
 ·rcases a3 b z with y|y
  ·exact h7 y
  ·have:=h5.lt;omega
end
def mZ (l:List Rc):bD:=l.foldl gW ⟨[],0⟩
theorem II {l:List Rc}{k:Nat}(h:k<l.length):mZ (l.take (k+1))=gW (mZ (l.take k)) (rc l k):=by
 unfold mZ;rw[List.take_succ_eq_append_getElem h,List.foldl_append,bG h];rfl
theorem Ag:∀(l:List Rc) {s:bD},s.Ok->(l.foldl gW s).Ok
 | [],_,h=>h
 | r::l,_,h=>Ag l (h.apply r)
theorem FD (l:List Rc):(mZ l).Ok:=Ag l bD.Ok.nil
