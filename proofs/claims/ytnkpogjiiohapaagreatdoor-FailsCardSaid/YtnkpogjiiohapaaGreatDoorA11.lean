/- Our own text. -/
import Derived.Test.YtnkpogjiiohapaaGreatDoorA10
set_option linter.unusedSimpArgs false
set_option linter.unusedVariables false
set_option maxRecDepth 1000000
set_option maxHeartbeats 3200000
namespace Go.Proofs.YtnkpogjiiohapaaGreatDoor
open Go.RowKit Tryz
variable {a e f:Nat}{b:World}{c w:cX}{d k l m n v:Value}{h:Nat->Prop}{i:List PId}{j:TypeId}{q:List (PId×dR)}{r:List (PId×dU)}{s:List (PId×eO)}{u:Nat×Nat}
theorem afj(h:b.heap[a]?=some (.cells #[d,k,l,m,v] j (0,0))):(b.setCell (K a 4) n).heap[a]?=some (.cells #[d,k,l,m,n] j (0,0)):=by
 obtain⟨_,c⟩:=ap8.1 h;simp[World.setCell,aN h,aq5,c]
theorem afk{R v aC}(h:cz b f e a s q)(af:fM e a R s q)(w x i j:Int){y:dR}(ej:bC (i,j) q=some y)(aF:iG b v aC)(bw:∀c,v=some c->R c):
  O 301 #[Z f,.agg #[A w,A x,.string ⟨#[]⟩,A i,A j],.map v] b fun d U=>(∃r,d=.returned r)/\
   cz U f e a s (cE (i,j) {y with v:=v,aC:=aC} q)/\fM e a R s (cE (i,j) {y with v:=v,aC:=aC} q)/\aO (fun k=>k=a) b U:=by
 have n:=aa ((apY b.heap.size b).alloc (apX _) (.cells #[A w,A x,.string ⟨#[]⟩,A i,A j] 97));have F:=aa (bI b (.cells #[A w,A x,.string ⟨#[]⟩,A i,A j] 97));obtain⟨⟨q1,z⟩,⟨B,C⟩,W,Dr⟩:=y;have nu:=ej;have dT:=aa aF;have t:=aa h;have cR:=aa af;obtain⟨g,I⟩:∃g,g=b.alloc (.cells #[A w,A x,.string ⟨#[]⟩,A i,A j] 97):=⟨_,rfl⟩;rw[<-I]at n F;go_enter func301,ntmps301;go_wp2;rw[<-I];have LQ:b.heap.size<g.heap.size:=by simp_all
 clear I;obtain⟨X,Y,k3,np,rR⟩:=gb F.o;have a6:=(t.o.ae n.o).a6;have hx:=t.o.lt;have UI:=(t.o.ae n.o).lt;have hz1:=n.o.size;have L:=(t.o.ae n.o.drew).sQ i j false;have M:=(t.o.ae (n.o.alloc hz1 (.cells #[A 0,A 0,A 0,A 0,.map none] 176)).drew).sQ i j false;rw[nu]at L M;simp only[aqJ,aqu,aqM,if_false,oY]at L M;go_cut [6] (fun p wc=>p=Z g.heap.size/\wc=(g.alloc (.cells #[A q1,A z,A B,A C,.map W] 176)).drew)
 case first =>
  go_region
  all_goals(go_wp2_with fail;go_meet)
  all_goals exact⟨rfl,rfl⟩
 case rest=>
  obtain⟨rfl,N⟩:=hcut;have la:=aa (show J g wc by rw[N];exact((apY _ g).alloc (apX _) _).drew);have D:=aa (show wc.heap[g.heap.size]?=some (.cells #[A q1,A z,A B,A C,.map W] 176 (0,0)) by rw[N];exact bI g _);have u:=aa (n.o.trans (la.o.mono hz1));clear N X Y k3 np rR a6 L M;have LR:=aa (bj F.o la.o);have zs:=aa (t.o.ae u.o);obtain⟨gW,Dx,Dy,lz,zd⟩:=gb D.o;have of:=cG D.o;go_wp2;obtain⟨l,m⟩:∃l,l=wc.setCell (V g 4) (.map v):=⟨_,rfl⟩;rw[<-m];have E:∀k,k≠g.heap.size->l.heap[k]?=wc.heap[k]?:=fun k P=>by rw[m,aqr _ _ _ _ P]
  have eA:=aa (show l.heap[g.heap.size]?=some (.cells #[A q1,A z,A B,A C,.map v] 176 (0,0)) by rw[m];exact afj D.o);have tb:=aa (zs.o.other E (by omega) D.o);have PN:=aa ((E _ (by omega)).trans LR.o);have fx:=aa (show J b l from⟨by rw[m];exact u.o.os,by rw[m];exact u.o.tape,by rw[m];exact u.o.output,by rw[m];have :=u.o.size;simpa[World.setCell]using this,fun k P=>by rw[E k (by omega),u.o.block k P]⟩);clear m E gW Dx Dy lz zd of;obtain⟨X,Y,k3,np,rR⟩:=gb PN.o;obtain⟨gW,Dx,Dy,lz,zd⟩:=gb eA.o;have a6:=tb.o.a6;have mO:=aa (show J l l.drew from(apY _ l).drew);obtain⟨jz,jA,Dt,gZ,fE⟩:=(tb.o.ae mO.o).zr cR.o (i,j) ⟨(q1,z),(B,C),v,aC⟩ (dT.o.ae fx.o.drew) bw;simp only[c0,oY]at Dt;have Q:=aa (And.intro gZ (And.intro fE ((aO.cJ fx.o.drew).trans (aO.put (S:=fun k=>k=a) (.map jz jA) rfl))));go_wp2;go_region
  all_goals(try go_wp2)
  all_goals exact bodyPost_ret (v:=.tuple #[]) (by simp[results,results301,go_sem]) rfl ⟨⟨_,rfl⟩,Q.o.1,Q.o.2.1,Q.o.2.2⟩
theorem FH(h:b.heap[a]?=some (.cells #[d,k,l,m] j u)):
  b.cell? (H a)=some d/\b.cell? (K a 1)=some k/\b.cell? (K a 2)=some l/\b.cell? (K a 3)=some m:=by simp[World.cell?,h]
theorem afl(h:b.heap[a]?=some (.cells #[d,n,k,l] j (0,0))):(b.setCell (K a 1) m).heap[a]?=some (.cells #[d,m,k,l] j (0,0)):=by
 obtain⟨_,c⟩:=ap8.1 h;simp[World.setCell,aN h,aq5,c]
theorem rT.lt{w v d}(h:rT w v d)(b:Nat)(a:v=some b):b<w.heap.size:=by
 rcases h.1 with⟨rfl,_⟩|⟨c,f,g,rfl,e⟩
 ·cases a
 injection a with a;subst a;exact e.lt
theorem afm{R v}(h:cz b f a e s q)(af:fM a e R s q)(m t F I:Int){l:ByteArray}(ht:l≠⟨#[]⟩){C:eO}(bT:bC (m,t) s=some C)(cO:(C.ks.map (·.1)).Nodup)(aF:iG b v r)(bw:∀c,v=some c->R c)(q9:∀k,b.heap.size<=k->R k):
  O 301 #[Z f,.agg #[A m,A t,.string l,A F,A I],.map v] b fun d w'=>(∃i,d=.returned i)/\
   (∃g pU,pU.Perm C.ks/\cz w' f a e (cE (m,t) {C with fG:=some g,ks:=cE l ⟨v,r⟩ pU} s) q/\fM a e R (cE (m,t) {C with fG:=some g,ks:=cE l ⟨v,r⟩ pU} s) q)/\aO (fun k=>k=a) b w':=by
 have hW:=HQ ht;have z:=aa ((apY b.heap.size b).alloc (apX _) (.cells #[A m,A t,.string l,A F,A I] 97));have vv:=aa (bI b (.cells #[A m,A t,.string l,A F,A I] 97));obtain⟨L,yg,lV,⟨M,N⟩⟩:=C;have ny:=aa cO;clear cO;have nT:=aa bT;clear bT;have dT:=aa aF;clear aF;have B:=aa h;clear h;have cR:=aa af;clear af;have oW:=aa q9;clear q9;simp only at ny;obtain⟨j,hT⟩:∃j,j=b.alloc (.cells #[A m,A t,.string l,A F,A I] 97):=⟨_,rfl⟩;rw[<-hT]at z vv;go_enter func301,ntmps301;go_wp2;rw[<-hT];have LQ:b.heap.size<j.heap.size:=by simp_all
 clear hT;obtain⟨P,Q,U,W,X⟩:=gb vv.o;have a6:=(B.o.ae z.o).bf;have hx:=B.o.lt;have UI:=(B.o.ae z.o).lt;have hz1:=z.o.size;have dC:=(B.o.ae z.o.drew).wK m t false;have cA:=(B.o.ae (z.o.alloc hz1 (.cells #[.bool false,.map none,A 0,A 0] 170)).drew).wK m t false;rw[nT.o]at dC cA;simp only[aqJ,aqu,aqM,if_false,pL]at dC cA;go_cut [7] (fun p wc=>p=Z j.heap.size/\wc=(j.alloc (.cells #[.bool L,.map yg,A M,A N] 170)).drew)
 case first =>
  go_region
  all_goals(go_wp2_with fail;go_meet)
  all_goals exact⟨rfl,rfl⟩
 case rest=>
  obtain⟨rfl,j2⟩:=hcut;have la:=aa (show J j wc by rw[j2];exact((apY _ j).alloc (apX _) _).drew);have q7:=aa (show wc.heap[j.heap.size]?=some (.cells #[.bool L,.map yg,A M,A N] 170 (0,0)) by rw[j2];exact bI j _);have dv:=aa (z.o.trans (la.o.mono hz1));clear j2 P Q U W X a6 dC cA;have LR:=aa (bj vv.o la.o);have afn:=aN q7.o;have afo:=aN LR.o;have Bb:=aa ((B.o.hk _ (fL nT.o)));have o6:=aa (show J b (wc.alloc (.map #[] 0)) from dv.o.alloc dv.o.size _);have dd:=aa (afi (isMap.fresh nL ve wc) (Bb.o.ae o6.o) (fun c x=>by have :=Bb.o.lt c x;omega) ny.o);have Dw:=FG 168;have We:=aa (show(wc.alloc (.map #[] 0)).heap[j.heap.size]?=_ from(hK wc _ afn).trans q7.o);have wR:=aa (show(wc.alloc (.map #[] 0)).heap[b.heap.size]?=_ from(hK wc _ afo).trans LR.o);obtain⟨Y,Dx,Dy,lz⟩:=FH We.o;go_wp2_with fail
  refine dd.o.mono ?_;rintro d w3 ⟨⟨i,rfl⟩,⟨m3,LP,PL,oj,mw⟩,Bj⟩;have hV:=aa oj;clear oj;have oy:=aa mw;clear mw;have js:=aa ((Bj.other j.heap.size (by simp;omega) (by omega)).trans We.o);have Wf:=aa ((Bj.other b.heap.size (by simp;omega) (by omega)).trans wR.o);have bB:=aa (o6.o.trans (Bj.under (n:=b.heap.size) (fun k u=>by omega) (by simp;omega)));clear Bj;clear Y Dx Dy lz;obtain⟨Bk,HX,tc,zz⟩:=xJ Hf oy.o underlying168 l ⟨v,r⟩;simp only[nL,ve]at tc;have Dz:=aa zz;clear zz;have D:=aa (show J b (putObj w3 wc.heap.size (.map Bk HX)) from bB.o.trans (aO.under (aO.put (S:=fun k=>k=wc.heap.size) _ rfl) (fun k u=>by omega) bB.o.size));have E:=aa (show(putObj w3 wc.heap.size (.map Bk HX)).heap[j.heap.size]?=_ from(tN (by omega)).trans js.o);have Wg:=aa (show(putObj w3 wc.heap.size (.map Bk HX)).heap[b.heap.size]?=_ from(tN (by omega)).trans Wf.o);obtain⟨w4,gQ⟩:∃w4,w4=putObj w3 wc.heap.size (.map Bk HX):=⟨_,rfl⟩;rw[<-gQ]at tc Dz D E Wg;obtain⟨Y,Dx,Dy,lz⟩:=FH E.o;have of:=cG E.o;obtain⟨P,Q,U,W,X⟩:=gb Wf.o;have h4l:=aN E.o;clear gQ;go_wp2;obtain⟨w,y⟩:∃w,w=w4.setCell (V j 1) (.map (some wc.heap.size)):=⟨_,rfl⟩;rw[<-y];have dY:∀k,k≠j.heap.size->w.heap[k]?=w4.heap[k]?:=fun k u=>by rw[y,aqr _ _ _ _ u]
  have HO5:=aa (show w.heap[j.heap.size]?=some (.cells #[.bool L,.map (some wc.heap.size),A M,A N] 170 (0,0)) by rw[y];exact afl E.o);have HP5:=aa ((dY _ (by omega)).trans Wg.o);have lD:=aa (show J b w from⟨by rw[y];exact D.o.os,by rw[y];exact D.o.tape,by rw[y];exact D.o.output,by rw[y];have :=D.o.size;simpa[World.setCell]using this,fun k u=>by rw[dY k (by omega),D.o.block k u]⟩);have yi:=aa (Dz.o.gJ (dY wc.heap.size (by omega)));have LS:=aa (B.o.ae lD.o);clear y dY Y Dx Dy lz of P Q U W X tc;obtain⟨P,Q,U,W,X⟩:=gb HP5.o;obtain⟨Y,Dx,Dy,lz⟩:=FH HO5.o;have a6:=LS.o.bf;have mO:=aa (show J w w.drew from(apY _ w).drew);have LU:rT w.drew (some wc.heap.size) (cE l ⟨v,r⟩ m3):=by
   refine⟨.inr ⟨_,_,_,rfl,yi.o.ae mO.o⟩,fun p ah=> ?_⟩;rcases ox ah with ah|rfl
   ·exact(Bb.o.2 p (hV.o.mem_iff.1 ah)).ae lD.o.drew
   exact dT.o.ae lD.o.drew
  have Wh:∀k∈cE l ⟨v,r⟩ m3,∀c,k.2.v=some c->R c:=by
   intro k u c x;rcases ox u with u|rfl
   ·exact cR.o.ij _ (fL nT.o) k (hV.o.mem_iff.1 u) c x
   exact bw c x
  obtain⟨es6,afp,Dt,gZ,fE⟩:=(LS.o.ae mO.o).Ds cR.o (m,t) ⟨L,some wc.heap.size,cE l ⟨v,r⟩ m3,(M,N)⟩ LU (fun c x=>by injection x with x;subst x;exact oW.o _ (by omega)) Wh;simp only[c0,pL]at Dt;have aP:=aa (And.intro gZ (And.intro fE ((aO.cJ lD.o.drew).trans (aO.put (S:=fun k=>k=a) (.map es6 afp) rfl))));clear gZ fE LU Wh;go_wp2;go_region
  all_goals(try go_wp2)
  all_goals go_end0
  all_goals exact⟨⟨_,rfl⟩,⟨_,m3,hV.o,aP.o.1,aP.o.2.1⟩,aP.o.2.2⟩
structure fH (D:cX):Prop where
 o:(D.1.map (·.1)).Nodup
 e:(D.2.map (·.1)).Nodup
 ks:∀p∈D.1,(p.2.ks.map (·.1)).Nodup
 fG:∀p∈D.1,∀k∈p.2.ks,(k.2.aC.map (·.1)).Nodup
 mQ:∀p∈D.2,(p.2.aC.map (·.1)).Nodup
def Bl (D:cX) (o:PId) (a:ByteArray) (x:PId) (v:Option Nat) (aC:List (PId×dU)) (c:cX):Prop:=
 (a=⟨#[]⟩/\∃d,bC x D.2=some d/\c=(D.1,cE x {d with v:=v,aC:=aC} D.2))\/
 (a≠⟨#[]⟩/\∃b g e,bC o D.1=some b/\e.Perm b.ks/\c=(cE o {b with fG:=some g,ks:=cE a ⟨v,aC⟩ e} D.1,D.2))
theorem fH.at{D}(h:fH D)(o:PId)(key:ByteArray)(x:PId):((eZ D.1 D.2 o key x).aC.map (·.1)).Nodup:=by
 unfold eZ;split
 ·split
  ·split
   ·rename_i e a;exact h.mQ _ (fL a)
   simp
  split
  ·split
   ·rename_i _ f b _ c d;exact h.fG _ (fL b) _ (fL d)
   simp
  simp
 simp
theorem Wi{v}(i:cz b f a e c.1 c.2)(D:fM a e h c.1 c.2)(I:fH c)(o x:PId)(s:ByteArray)(p:lE c.1 c.2 o s x=true)(E:iG b v r)(F:∀j,v=some j->h j)(L:∀k,b.heap.size<=k->h k):
  O 301 #[Z f,.agg #[A o.1,A o.2,.string s,A x.1,A x.2],.map v] b fun d t=>(∃l,d=.returned l)/\
   (∃q,Bl c o s x v r q/\cz t f a e q.1 q.2/\fM a e h q.1 q.2)/\aO (fun k=>k=a\/k=e) b t:=by
 obtain⟨w,y⟩:=o;obtain⟨z,B⟩:=x;unfold lE at p;by_cases m:s=⟨#[]⟩
 ·subst m;rw[if_pos rfl]at p;cases C:bC (z,B) c.2 with
  |none=>rw[C]at p;cases p
  |some M=>
   exact(afk i D w y z B C E F).mono fun d t n=>⟨n.1,⟨(c.1,_),.inl ⟨rfl,M,C,rfl⟩,n.2.1,n.2.2.1⟩,n.2.2.2.mono fun k m=>.inr m⟩
 rw[if_neg m]at p;cases u:bC (w,y) c.1 with
 |none=>rw[u]at p;cases p
 |some N=>
  refine(afm i D w y z B m u (I.ks _ (fL u)) E F L).mono fun d t n=>⟨n.1,?_,n.2.2.mono fun k m=>.inl m⟩
  obtain⟨g,P,Q,R,S⟩:=n.2.1;exact⟨(_,c.2),.inr ⟨m,N,g,P,u,Q,rfl⟩,R,S⟩
theorem afq(h:cz b a e f s q)(g i j k n p:Int)(l:ByteArray)(c:Value)(u:lE s q (g,i) l (j,k)=false):
  O 304 #[.agg #[A g,A i,.string l,A j,A k,c],Z a,.agg #[A n,A p]] b fun d v=>(∃r,d=.returned r)/\J b v:=by
 have m:=((apY b.heap.size b).alloc (apX _) (.cells #[A g,A i,.string l,A j,A k,c] 184)).alloc (by simp) (.cells #[A n,A p] 36);have t:=aa (HR (h.ae m) g i j k l);rw[u]at t;go_enter func304,ntmps304;go_wp2_with fail
 refine t.o.mono ?_;rintro d x ⟨rfl,w⟩;go_wp2;go_end0
 exact⟨⟨_,rfl⟩,m.trans (w.mono m.size)⟩
theorem afr(h:b.heap[a]?=some (.cells #[d,k,l,m,n,v] j u)):
  b.cell? (H a)=some d/\b.cell? (K a 1)=some k/\b.cell? (K a 2)=some l/\b.cell? (K a 3)=some m/\b.cell? (K a 4)=some n/\b.cell? (K a 5)=some v:=by simp[World.cell?,h]
def Bm (D:cX) (o:PId) (key:ByteArray) (x:PId) (c:List PId) (a:cX):Prop:=
 if lE D.1 D.2 o key x then ∃v b,b.Perm (q8 c (eZ D.1 D.2 o key x).aC)/\Bl D o key x (some v) b a else a=D
theorem afs{R}(h:cz b f a e c.1 c.2)(U:fM a e R c.1 c.2)(W:fH c)(m n p q X Y:Int)(s:ByteArray)(ad:eE b d i)(L:lE c.1 c.2 (m,n) s (p,q)=true)(q9:∀k,b.heap.size<=k->R k):
  O 304 #[.agg #[A m,A n,.string s,A p,A q,d],Z f,.agg #[A X,A Y]] b fun j w'=>(∃r,j=.returned r)/\
   (∃w v aC,aC.Perm (q8 i (eZ c.1 c.2 (m,n) s (p,q)).aC)/\Bl c (m,n) s (p,q) (some v) aC w/\cz w' f a e w.1 w.2/\fM a e R w.1 w.2)/\aO (fun k=>k=a\/k=e) b w':=by
 have M:=aa (((apY b.heap.size b).alloc (apX _) (.cells #[A m,A n,.string s,A p,A q,d] 184)).alloc (by simp) (.cells #[A X,A Y] 36));have bR:=aa (HR (h.ae M.o) m n p q s);rw[L]at bR;have N:=aa h;clear h;have cR:=aa U;clear U;have pV:=aa W;clear W;have jL:=aa ad;clear ad;have da:=aa L;clear L;have oW:=aa q9;clear q9;go_enter func304,ntmps304;go_wp2_with fail
 refine bR.o.mono ?_;rintro j x ⟨rfl,P⟩;have HY:=aa (show x.heap[b.heap.size]?=some (.cells #[A m,A n,.string s,A p,A q,d] 184 (0,0)) by rw[P.block b.heap.size (by simp;omega)];exact mq (bI _ _));have Q:=aa (M.o.trans (P.mono M.o.size));clear P;have hz1:=Q.o.size;obtain⟨y,z,B,C,D,E⟩:=afr HY.o;have kS:=aa Q.o.drew;have uj:=aa (show J x x.drew from(apY _ x).drew);have bY:=aa (LH (N.o.ae kS.o) m n p q s);have dT:=aa (N.o.at (m,n) s (p,q));have ny:=aa (pV.o.at (m,n) s (p,q));go_wp2_with fail
 go_region_with (first
  |(go_at_call 86;refine bY.o.mono ?_;rintro j w2 ⟨rfl,aY⟩;have t:J x w2:=uj.o.trans aY;replace y:=ae t y;replace z:=ae t z;replace B:=ae t B;replace C:=ae t C;replace D:=ae t D;replace E:=ae t E;have iy:=aa (bj HY.o t);have F:=aa (Q.o.trans (t.mono hz1));clear aY t;have hz2:=F.o.size;have dD:=aa (Wd (dT.o.ae F.o) ny.o (jL.o.ae F.o)))
  |(go_at_call 300;refine dD.o.mono ?_;rintro j w3 ⟨⟨g,m3,LP,PL,rfl,di,oj,mw⟩,u⟩;replace y:=ae u y;replace z:=ae u z;replace B:=ae u B;replace C:=ae u C;replace D:=ae u D;replace E:=ae u E;have S:=aa (F.o.trans (u.mono hz2));have hV:=aa oj;have PO:=aa (show iG w3 (some g) m3 from .inr ⟨_,_,_,rfl,mw⟩);clear u oj mw;have o7:=aa (Wi (N.o.ae S.o) cR.o pV.o (m,n) (p,q) s da.o PO.o (fun l ab=>oW.o l (by injection ab with ab;omega)) (fun k hk=>oW.o k (ap0 S.o.size hk))))
  |(go_at_call 301;refine o7.o.mono ?_;rintro j w4 ⟨⟨r,rfl⟩,⟨w,jv,Wj,ha⟩,FI⟩;have I:=aa (And.intro jv (And.intro Wj (And.intro ha ((aO.cJ S.o).trans FI))));clear jv Wj ha FI))
 all_goals(try go_wp2)
 all_goals go_end0
 all_goals exact⟨⟨_,rfl⟩,⟨_,_,_,hV.o,I.o.1,I.o.2.1,I.o.2.2.1⟩,I.o.2.2.2⟩
theorem aft(g:cz b f a e c.1 c.2)(z:fM a e h c.1 c.2)(D:fH c)(o x j:PId)(p:ByteArray)(E:eE b d i)(F:∀k,b.heap.size<=k->h k):
  O 304 #[.agg #[A o.1,A o.2,.string p,A x.1,A x.2,d],Z f,.agg #[A j.1,A j.2]] b fun l q=>(∃r,l=.returned r)/\
   (∃m,Bm c o p x i m/\cz q f a e m.1 m.2/\fM a e h m.1 m.2)/\aO (fun k=>k=a\/k=e) b q:=by
 obtain⟨t,u⟩:=o;obtain⟨w,y⟩:=x;obtain⟨B,C⟩:=j;cases s:lE c.1 c.2 (t,u) p (w,y) with
 |false=>
  exact(afq g t u w y B C p d s).mono fun l q n=>⟨n.1,⟨c,by simp[Bm,s],g.ae n.2,z⟩,aO.cJ n.2⟩
 |true=>
  refine(afs g z D t u w y B C p E s F).mono fun l q n=>⟨n.1,?_,n.2.2⟩
  obtain⟨m,v,I,L,M,N,P⟩:=n.2.1;exact⟨m,by unfold Bm;rw[if_pos s];exact⟨v,I,L,M⟩,N,P⟩
def yj (D:cX) (o:PId) (key:ByteArray) (x:PId) (a:PId):Bool:=lE D.1 D.2 o key x&&(bC a D.1).isSome
def Bn (D:cX) (o:PId) (key:ByteArray) (x:PId) (a:dU) (d:List PId) (i:PId) (b:cX):Prop:=
 if yj D o key x a.2 then ∃v c,c.Perm (q8 d (eZ D.1 D.2 o key x).aC)/\Bl D o key x (some v) (cE i a c) b else b=D
theorem HZ{y z s:Value}(h:b.heap[a]?=some (.cells #[d,k,l,m,n,v,y,z,s] j u)):
  b.cell? (H a)=some d/\b.cell? (K a 1)=some k/\b.cell? (K a 2)=some l/\b.cell? (K a 3)=some m/\b.cell? (K a 4)=some n/\b.cell? (K a 5)=some v/\b.cell? (K a 6)=some y/\b.cell? (K a 7)=some z/\b.cell? (K a 8)=some s:=by simp[World.cell?,h]
theorem afu(h:cz b a e f c.1 c.2)(g i j k x m n y z:Int)(l:ByteArray)(s:Value)(t:yj c (g,i) l (j,k) (m,n)=false):
  O 299 #[.agg #[A g,A i,.string l,A j,A k,A x,A m,A n,s],Z a,.agg #[A y,A z]] b fun d E=>(∃r,d=.returned r)/\J b E:=by
 have p:=((apY b.heap.size b).alloc (apX _) (.cells #[A g,A i,.string l,A j,A k,A x,A m,A n,s] 182)).alloc (by simp) (.cells #[A y,A z] 36);have u:=aa (HR (h.ae p) g i j k l);go_enter func299,ntmps299;unfold yj at t;cases B:lE c.1 c.2 (g,i) l (j,k) with
 |false=>
  rw[B]at u;go_wp2_with fail
  refine u.o.mono ?_;rintro d C ⟨rfl,w⟩;have q:=aa (p.trans (w.mono p.size));go_wp2;exact bodyPost_ret (v:=.tuple #[]) (by simp[results,results299,go_sem]) rfl ⟨⟨_,rfl⟩,q.o⟩
 |true=>
  rw[B]at u t;rw[Bool.true_and]at t;go_wp2_with fail
  refine u.o.mono ?_;rintro d C ⟨rfl,w⟩;have q:=aa (p.trans (w.mono p.size));obtain⟨I,L,M,N,P,Q,R,S,U⟩:=HZ (show C.heap[b.heap.size]?=some (.cells #[A g,A i,.string l,A j,A k,A x,A m,A n,s] 182 (0,0)) by rw[w.block b.heap.size (by simp;omega)];exact mq (bI _ _));have D:=aa (HF (h.ae q.o) m n);rw[t]at D;go_wp2_with fail
  refine D.o.mono ?_;rintro d W ⟨rfl,F⟩;go_wp2;exact bodyPost_ret (v:=.tuple #[]) (by simp[results,results299,go_sem]) rfl ⟨⟨_,rfl⟩,q.o.trans (F.mono q.o.size)⟩
theorem afv{R}(h:cz b f a e c.1 c.2)(af:fM a e R c.1 c.2)(hn:fH c)(n q s t B w x D E:Int)(u:ByteArray)(ad:eE b d i)(F:yj c (n,q) u (s,t) (w,x)=true)(q9:∀k,b.heap.size<=k->R k):
  O 299 #[.agg #[A n,A q,.string u,A s,A t,A B,A w,A x,d],Z f,.agg #[A D,A E]] b fun j w'=>(∃r,j=.returned r)/\
   (∃C v aC,aC.Perm (q8 i (eZ c.1 c.2 (n,q) u (s,t)).aC)/\Bl c (n,q) u (s,t) (some v) (cE (D,E) (B,w,x) aC) C/\cz w' f a e C.1 C.2/\fM a e R C.1 C.2)/\aO (fun k=>k=a\/k=e) b w':=by
 have a7:=aa (((apY b.heap.size b).alloc (apX _) (.cells #[A n,A q,.string u,A s,A t,A B,A w,A x,d] 182)).alloc (by simp) (.cells #[A D,A E] 36));have bR:=aa (HR (h.ae a7.o) n q s t u);unfold yj at F;rw[Bool.and_eq_true]at F;rw[F.1]at bR;have W:=aa h;have cR:=aa af;have pV:=aa hn;have HIS:=aa ad;have da:=aa F.1;have DC:=aa F.2;have oW:=aa q9;go_enter func299,ntmps299;go_wp2_with fail
 refine bR.o.mono ?_;rintro j w1 ⟨rfl,aq⟩;have HY:=aa (show w1.heap[b.heap.size]?=some (.cells #[A n,A q,.string u,A s,A t,A B,A w,A x,d] 182 (0,0)) by rw[aq.block b.heap.size (by simp;omega)];exact mq (bI _ _));have ui:=aa (show w1.heap[b.heap.size+1]?=some (.cells #[A D,A E] 36 (0,0)) by rw[aq.block (b.heap.size+1) (by simp)];exact(by simp :(b.alloc (.cells #[A n,A q,.string u,A s,A t,A B,A w,A x,d] 182)).heap.size=b.heap.size+1)▸bI (b.alloc (.cells #[A n,A q,.string u,A s,A t,A B,A w,A x,d] 182)) _);have ay:=aa (a7.o.trans (aq.mono a7.o.size));obtain⟨I,L,M,N,P,t5,t6,t7,Q⟩:=HZ HY.o;have jL:=aa (HF (W.o.ae ay.o) w x);rw[DC.o]at jL;go_wp2_with fail
 refine jL.o.mono ?_;rintro j U ⟨rfl,aY⟩;have iy:=aa (bj HY.o aY);have Wk:=aa (bj ui.o aY);have X:=aa (ay.o.trans (aY.mono ay.o.size));obtain⟨I,L,M,N,P,t5,t6,t7,Q⟩:=HZ iy.o;have hz2:=X.o.size;have aoe:=aN Wk.o;have HI:=aa (show J U U.drew from(apY _ U).drew);have bY:=aa (LH (W.o.ae X.o.drew) n q s t u);have dT:=aa (W.o.at (n,q) u (s,t));have ny:=aa (pV.o.at (n,q) u (s,t));go_wp2;go_cut [6] (fun p wc=>∃g m es aT,p=.map (some g)/\U.heap.size<=g/\m.Perm (q8 i (eZ c.1 c.2 (n,q) u (s,t)).aC)/\isMap c0 oX wc g m es aT/\J U wc)
 case first =>
  go_region_with (first
   |(go_at_call 86;refine bY.o.mono ?_;rintro j w3 ⟨rfl,bb⟩;have y:=HI.o.trans bb;replace I:=ae y I;replace L:=ae y L;replace M:=ae y M;replace N:=ae y N;replace P:=ae y P;replace Q:=ae y Q;have bB:=aa (X.o.trans (y.mono hz2));have oi:=aa y;have mR:=oi.o.size;have dD:=aa (Wd (dT.o.ae bB.o) ny.o (HIS.o.ae bB.o)))
   |(go_at_call 300;refine dD.o.mono ?_;rintro j w4 ⟨⟨g,m4,Bk,HX,rfl,dw,hp4,zz⟩,gp⟩;have z:=aa (And.intro hp4 (And.intro zz (oi.o.trans (gp.mono mR))))))
  all_goals(go_wp2_with fail;go_meet)
  all_goals exact⟨_,_,_,_,rfl,ap0 mR dw,z.o.1,z.o.2.1,z.o.2.2⟩
 case rest=>
  obtain⟨g,m,es,aT,rfl,ag,pS,hm,Y⟩:=hcut;have wR:=aa pS;clear pS;have bJ:=aa hm;clear hm;have Wl:=aa (bj iy.o Y);have zu:=aa (bj Wk.o Y);have la:=aa (X.o.trans (Y.mono hz2));clear Y;clear I L M N P t5 t6 t7 Q;obtain⟨I,L,M,N,P,t5,t6,t7,Q⟩:=HZ Wl.o;obtain⟨a0,b2⟩:=bl zu.o;obtain⟨PQ,PR,tc,FJ⟩:=xJ xK bJ.o underlying159 (D,E) (B,w,x);simp only[c0,oX]at tc;have yi:=aa FJ;clear FJ;have lD:=aa (show J b (putObj wc g (.map PQ PR)) from la.o.trans (aO.under (aO.put (S:=fun k=>k=g) _ rfl) (fun k hk=>by omega) la.o.size));have Wm:=aa (show(putObj wc g (.map PQ PR)).heap[b.heap.size]?=_ from(tN (by omega)).trans Wl.o);obtain⟨w5,td⟩:∃w5,w5=putObj wc g (.map PQ PR):=⟨_,rfl⟩;rw[<-td]at tc yi lD Wm;clear td;obtain⟨s0,s1,s2,s3,s4,s5,s6,s7,s8⟩:=HZ Wm.o;have o7:=aa (Wi (W.o.ae lD.o) cR.o pV.o (n,q) (s,t) u da.o (show iG w5 (some g) _ from .inr ⟨_,_,_,rfl,yi.o⟩) (fun l ab=>oW.o l (by injection ab with ab;omega)) (fun k hk=>oW.o k (ap0 lD.o.size hk)));go_wp2_with fail
  refine o7.o.mono ?_;rintro j w6 ⟨⟨r,rfl⟩,⟨C,jv,Wn,Wo⟩,Wp⟩;have z:=aa (And.intro jv (And.intro Wn (And.intro Wo ((aO.cJ lD.o).trans Wp))));clear jv Wn Wo Wp;go_wp2;go_end0
  exact⟨⟨_,rfl⟩,⟨_,_,_,wR.o,z.o.1,z.o.2.1,z.o.2.2.1⟩,z.o.2.2.2⟩
theorem afw(j:cz b f a e c.1 c.2)(D:fM a e h c.1 c.2)(L:fH c)(o x g:PId)(p:dU)(q:ByteArray)(M:eE b d i)(N:∀k,b.heap.size<=k->h k):
  O 299 #[.agg #[A o.1,A o.2,.string q,A x.1,A x.2,A p.1,A p.2.1,A p.2.2,d],Z f,.agg #[A g.1,A g.2]] b fun l s=>(∃r,l=.returned r)/\
   (∃m,Bn c o q x p i g m/\cz s f a e m.1 m.2/\fM a e h m.1 m.2)/\aO (fun k=>k=a\/k=e) b s:=by
 obtain⟨u,w⟩:=o;obtain⟨y,z⟩:=x;obtain⟨E,F⟩:=g;obtain⟨I,B,C⟩:=p;cases t:yj c (u,w) q (y,z) (B,C) with
 |false=>
  exact(afu j u w y z I B C E F q d t).mono fun l s n=>⟨n.1,⟨c,by simp[Bn,t],j.ae n.2,D⟩,aO.cJ n.2⟩
 |true=>
  refine(afv j D L u w y z I B C E F q M t N).mono fun l s n=>⟨n.1,?_,n.2.2⟩
  obtain⟨m,v,P,Q,R,S,U⟩:=n.2.1;exact⟨m,by unfold Bn;rw[if_pos t];exact⟨v,P,Q,R⟩,S,U⟩
def iz:cX:=([((0,0),⟨false,none,[],(0,0)⟩)],[])
theorem Wq(w:World):
  O 161 #[] w fun e i=>(∃d b c,e=.returned (.pointer (some ⟨d,0,none⟩))/\cz i d b c iz.1 iz.2/\w.heap.size<=d/\w.heap.size<=b/\w.heap.size<=c/\b≠c)/\Below w.heap.size w i:=by
 have u:=FG;have s:=(apY w.heap.size w).alloc (apX _) (.map #[] 0);obtain⟨j,l,m,t⟩:=xJ xK (isMap.fresh c0 pL w) underlying171 (0,0) ⟨false,none,[],(0,0)⟩;simp only[c0,pL]at m;have f:=aa t;have g:=aa (show Below w.heap.size w (putObj (w.alloc (.map #[] 0)) w.heap.size (.map j l)) from s.trans (aO.under (aO.put (S:=fun k=>k=w.heap.size) _ rfl) (fun k n=>by omega) (by simp)));obtain⟨a,q⟩:∃a,a=putObj (w.alloc (.map #[] 0)) w.heap.size (.map j l):=⟨_,rfl⟩;rw[<-q]at m f g;clear q;have v:=f.o.lt;go_enter func161,ntmps161;go_wp2;go_ret
 have r:=((apY a.heap.size a).alloc (apX _) (.map #[] 0)).alloc (by simp) (.cells #[.map (some w.heap.size),.map (some a.heap.size)] 174);refine⟨⟨a.heap.size+1,w.heap.size,a.heap.size,rfl,⟨(by simp :(a.alloc (.map #[] 0)).heap.size=a.heap.size+1)▸bI (a.alloc (.map #[] 0)) _,⟨_,_,f.o.ae r⟩,⟨#[],0,(isMap.fresh c0 oY a).ae ((apY _ _).alloc (apX _) _)⟩,?_,fun p h=>by cases h⟩,by omega,by omega,by omega,by omega⟩,g.o.trans (r.mono g.o.size)⟩;intro p h;have :p=((0,0),⟨false,none,[],(0,0)⟩):=by simpa[iz,cE]using h
 subst this;exact⟨.inl ⟨rfl,rfl⟩,fun k n=>by cases n⟩
abbrev lg:=Bool⊕(PId×PId)⊕(PId×ByteArray×PId×dU×List PId)⊕(PId×ByteArray×PId×List PId)
structure nU where
 id:PId
 nth:Int
 chg:lg
def mS (D:cX) (o:nU) (a:cX):Prop:=
 match o.chg with
 |.inl l=>a=(cE o.id ⟨l,none,[],(0,0)⟩ D.1,D.2)
 |.inr (.inl (x,b))=>a=mv D x b o.id
 |.inr (.inr (.inl (c,key,x,e,d)))=>Bn D c key x e d o.id a
 |.inr (.inr (.inr (c,key,x,d)))=>Bm D c key x d a
def mT:cX->List nU->cX->Prop
 |D,[],a=>a=D
 |D,o::l,a=>∃b,mS D o b/\mT b l a
theorem mT.nil:mT c [] c:=rfl
theorem mT.snoc{l:List nU}{o:nU}:∀{D a:cX},mT D l a->mS a o c->mT D (l++[o]) c:=by
 induction l with
 |nil=>
  intro D a h b;have d:=h;subst d;exact⟨c,b,rfl⟩
 |cons x l ih=>
  rintro D a ⟨D0,e,f⟩ b;exact⟨D0,e,ih f b⟩
theorem DE {κ ν:Type} [DecidableEq κ] {x:κ} {v:ν}:∀{m:List (κ×ν)},(m.map (·.1)).Nodup->((cE x v m).map (·.1)).Nodup
 |[],_=>by simp[cE]
 |p::m,h=>by
  simp only[aqj,aqw]at h;unfold cE;by_cases b:x=p.1
  ·simp_all
  rw[if_neg b];simp only[aqj,aqw];refine⟨fun c=> ?_,DE h.2⟩;obtain⟨q,a,d⟩:=ap5.1 c;rcases ox a with a|rfl
  ·exact h.1 (d▸ap5.2 ⟨q,a,rfl⟩)
  simp_all
theorem fH.Ds(h:fH c){x:PId}{o:eO}(b:(o.ks.map (·.1)).Nodup)(d:∀k∈o.ks,(k.2.aC.map (·.1)).Nodup):fH (cE x o c.1,c.2):=by
 refine⟨DE h.o,h.e,fun p a=> ?_,fun p a=> ?_,h.mQ⟩
 ·rcases ox a with a|rfl
  ·exact h.ks p a
  omega
 rcases ox a with a|rfl
 ·exact h.fG p a
 omega
theorem fH.zr(h:fH c){x:PId}{e:dR}(b:(e.aC.map (·.1)).Nodup):fH (c.1,cE x e c.2):=by
 refine⟨h.o,DE h.e,h.ks,h.fG,fun p a=> ?_⟩;rcases ox a with a|rfl
 ·exact h.mQ p a
 omega
theorem fH.lay(h:fH c)(x b i:PId):fH (mv c x b i):=by
 unfold mv;split
 ·exact h
 rename_i a d
 split
 ·exact h
 split
 ·exact(h.zr (e:=⟨x,a.first,none,[]⟩) (x:=i) (by simp)).Ds (o:={a with first :=i}) (h.ks _ (fL d)) (h.fG _ (fL d))
 split
 ·exact h
 rename_i e f
 split
 ·exact(h.zr (e:=⟨x,e.next,none,[]⟩) (x:=i) (by simp)).zr (e:={e with next :=i}) (h.mQ _ (fL f))
 omega
theorem fH.Wr{o x b v}(h:fH c){aC:List (PId×dU)}(i:(aC.map (·.1)).Nodup)(j:Bl c o b x v aC w):fH w:=by
 rcases j with⟨_,l,p,rfl⟩|⟨_,m,g,n,d,f,rfl⟩
 ·exact h.zr (e:={l with v:=v,aC:=aC}) i
 refine h.Ds (o:={m with fG:=some g,ks:=cE b ⟨v,aC⟩ n}) (DE ((f.map (·.1)).nodup_iff.2 (h.ks _ (fL d)))) fun k a=> ?_
 rcases ox a with a|rfl
 ·exact h.fG _ (fL d) k (f.mem_iff.1 a)
 omega
theorem Ws{m:List (PId×dU)}(a:(r.map (·.1)).Nodup)(h:m.Perm (q8 i r)):(m.map (·.1)).Nodup:=(h.map (·.1)).nodup_iff.2 ((List.filter_sublist.map _).nodup a)
theorem fH.step{o}(h:fH c)(a:mS c o w):fH w:=by
 obtain⟨id,m,chg⟩:=o;rcases chg with l|⟨x,b⟩|⟨d,key,x,n,g⟩|⟨d,key,x,g⟩
 ·subst a;exact h.Ds (o:=⟨l,none,[],(0,0)⟩) (by simp) (fun k i=>by cases i)
 ·subst a;exact h.lay x b id
 ·simp only[mS,Bn]at a;split at a
  ·obtain⟨v,j,e,f⟩:=a;exact h.Wr (DE (Ws (h.at d key x) e)) f
  simp_all
 simp only[mS,Bm]at a;split at a
 ·obtain⟨v,j,e,f⟩:=a;exact h.Wr (Ws (h.at d key x) e) f
 simp_all
theorem fH.mu{D l}(h:fH D)(a:mT D l c):fH c:=by
 induction l generalizing D with
 |nil=>
  exact a▸h
 |cons x l ih=>
  obtain⟨e,b,d⟩:=a;exact ih (h.step b) d
theorem fH.root:fH iz:=by
 refine⟨by simp[iz],by simp[iz],fun p a=> ?_,fun p a=> ?_,fun p a=>by cases a⟩
 ·simp[iz]at a
  simp_all
 simp[iz]at a
 simp_all
def vw (w:World) (c:Value):lg->Prop
 |.inl l=>c=.iface 197 (.agg #[.bool l])
 |.inr (.inl (x,b))=>c=.iface 179 (.agg #[A x.1,A x.2,A b.1,A b.2])
 |.inr (.inr (.inl (o,a,x,d,e)))=>∃s,c=.iface 182 (.agg #[A o.1,A o.2,.string a,A x.1,A x.2,A d.1,A d.2.1,A d.2.2,s])/\eE w s e
 |.inr (.inr (.inr (o,a,x,e)))=>∃s,c=.iface 184 (.agg #[A o.1,A o.2,.string a,A x.1,A x.2,s])/\eE w s e
def LV (w:World) (g i:Nat) (o:nU):Prop:=
 w.cell? (K g i)=some (A o.id.1)/\w.cell? (K g (i+1))=some (A o.id.2)/\w.cell? (K g (i+2))=some (A o.nth)/\∃c,w.cell? (K g (i+3))=some c/\vw w c o.chg
theorem aO.cell{w}(c:aO h w b){g:Nat}{v:Value}(e:¬h g)(d:w.cell? (K g a)=some v):b.cell? (K g a)=some v:=by
 unfold World.cell? at d⊢;rw[c.other g (aqd w _ d) e];exact d
theorem eE.FE{S a}(h:eE b d i)(j:aO S b a)(k:∀g c t f,b.heap[g]?=some (.cells c t f)->¬S g):eE a d i:=
 ca h (fun g l=>by
  obtain⟨c,e⟩:=bq h l;exact j.other g (aN e) (k g _ _ _ e))
theorem vw.FE{S w d c q}(h:vw w c q)(i:aO S w d)(j:∀g c t f,w.heap[g]?=some (.cells c t f)->¬S g):vw d c q:=by
 rcases q with l|⟨x,b⟩|⟨o,k,x,n,m⟩|⟨o,k,x,m⟩
 ·exact h
 ·exact h
 ·obtain⟨s,e,a⟩:=h;exact⟨s,e,a.FE i j⟩
 obtain⟨s,e,a⟩:=h;exact⟨s,e,a.FE i j⟩
theorem afx{w R}(h:cz w f a e c.1 c.2)(af:fM a e R c.1 c.2)(hn:fH c)(q9:∀k,w.heap.size<=k->R k)(g off cap:Nat)(l:List nU)(hl:l.length<=cap)(hc:l.length<=10000)(hof:off<=100000)(FK:∀k (N:k<l.length),LV w g (off+k*4) l[k]):
  O 134 #[Z f,.slice (some (K g off)) l.length cap] w fun d z=>(∃r,d=.returned r)/\
   (∃q,mT c l q/\cz z f a e q.1 q.2/\fM a e R q.1 q.2)/\aO (fun k=>k=a\/k=e) w z:=by
 have qk:=aa (show ∀g j t m,w.heap[g]?=some (.cells j t m)->¬(g=a\/g=e) from fun g j t m Y ad=>by
  obtain⟨es,aT,nv⟩:=h.af;obtain⟨jz,jA,lf⟩:=h.he;rcases ad with rfl|rfl
  ·rw[nv.blk]at Y;cases Y
  rw[lf.blk]at Y;cases Y)
 have Hr:=aa FK;clear FK;have az:=aa h;clear h;have cR:=aa af;clear af;have pV:=aa hn;clear hn;have oW:=aa q9;clear q9;go_enter func134,ntmps134;go_wp2;go_loopw [8] (fun i wr=>∃k:Nat,k<=l.length/\i=A k/\(∃q,mT c (l.take k) q/\cz wr f a e q.1 q.2/\fM a e R q.1 q.2)/\aO (fun k=>k=a\/k=e) w wr) (fun i _=>l.length-(intOf i).toNat)
 case atStart=>exact⟨0,apZ _,rfl,⟨c,.nil,az.o,cR.o⟩,aO.cJ (apY _ _)⟩
 case round=>
  obtain⟨k,N,rfl,⟨q,kT,ak,bu⟩,Bi⟩:=hrel;have P:=aa kT;clear kT;have S:=aa ak;clear ak;have U:=aa bu;clear bu;have C:=aa Bi;clear Bi;by_cases W:k<l.length
  ·obtain⟨bf,a6,bc,j,bZ,jQ⟩:=Hr.o k W;have LW:¬(g=a\/g=e):=by
    have B:=bf;unfold World.cell? at B;simp only at B;cases c8:w.heap[g]? with
    |none=>rw[c8]at B;cases B
    |some o=>
     cases o with
     |cells cs t m=>exact qk.o g _ _ _ c8
     |_=>rw[c8]at B;simp at B
   have L:=aa (jQ.FE C.o qk.o);clear jQ;replace bf:=C.o.cell LW bf;replace a6:=C.o.cell LW a6;replace bc:=C.o.cell LW bc;replace bZ:=C.o.cell LW bZ;rcases M:l[k].chg with aQ|⟨x,b⟩|⟨o,X,x,val,gs⟩|⟨o,X,x,gs⟩
   ·rw[M]at L;have v:=L.o;simp only[vw]at v;subst v;have y:=aa (show J wr (wr.alloc (.cells #[A l[k].id.1,A l[k].id.2,A l[k].nth,.iface 197 (.agg #[.bool aQ])] 210)) from(apY _ wr).alloc (apX _) _);have Q:=aa ((aeZ (S.o.ae y.o) U.o aQ l[k].id.1 l[k].id.2).mono (fun d z p=>(show(∃r,d=.returned r)/\(∃n,mS q l[k] n/\cz z f a e n.1 n.2/\fM a e R n.1 n.2)/\aO (fun k=>k=a\/k=e) _ z from⟨p.1,⟨(cE l[k].id ⟨aQ,none,[],(0,0)⟩ q.1,q.2),by unfold mS;rw[M],p.2.1,p.2.2.1⟩,p.2.2.2.mono fun k N=>.inl N⟩)));go_wp2_with fail
    refine Q.o.mono ?_;rintro d w2 ⟨⟨r,rfl⟩,B,D⟩;obtain⟨n,E,F,I⟩:=B;have u:=aa (And.intro E (And.intro F (And.intro I (C.o.trans ((aO.cJ y.o).trans D)))));clear E F I D;go_wp2;go_roundw
    case rel=>exact⟨k+1,by omega,by go_num,⟨n,by rw[aqp W];exact .snoc P.o u.o.1,u.o.2.1,u.o.2.2.1⟩,u.o.2.2.2⟩
    case measure=>simp[intOf];omega
   ·rw[M]at L;have v:=L.o;simp only[vw]at v;subst v;have y:=aa (show J wr (wr.alloc (.cells #[A l[k].id.1,A l[k].id.2,A l[k].nth,.iface 179 (.agg #[A x.1,A x.2,A b.1,A b.2])] 210)) from(apY _ wr).alloc (apX _) _);have Q:=aa ((ae7 (S.o.ae y.o) U.o x b l[k].id).mono (fun d z p=>(show(∃r,d=.returned r)/\(∃n,mS q l[k] n/\cz z f a e n.1 n.2/\fM a e R n.1 n.2)/\aO (fun k=>k=a\/k=e) _ z from⟨p.1,⟨mv q x b l[k].id,by unfold mS;rw[M],p.2.1,p.2.2.1⟩,p.2.2.2⟩)));go_wp2_with fail
    refine Q.o.mono ?_;rintro d w2 ⟨⟨r,rfl⟩,B,D⟩;obtain⟨n,E,F,I⟩:=B;have u:=aa (And.intro E (And.intro F (And.intro I (C.o.trans ((aO.cJ y.o).trans D)))));clear E F I D;go_wp2;go_roundw
    case rel=>exact⟨k+1,by omega,by go_num,⟨n,by rw[aqp W];exact .snoc P.o u.o.1,u.o.2.1,u.o.2.2.1⟩,u.o.2.2.2⟩
    case measure=>simp[intOf];omega
   ·rw[M]at L;have v:=L.o;simp only[vw]at v;obtain⟨s,v,H0⟩:=v;subst v;have y:=aa (show J wr (wr.alloc (.cells #[A l[k].id.1,A l[k].id.2,A l[k].nth,.iface 182 (.agg #[A o.1,A o.2,.string X,A x.1,A x.2,A val.1,A val.2.1,A val.2.2,s])] 210)) from(apY _ wr).alloc (apX _) _);have Q:=aa ((afw (S.o.ae y.o) U.o (pV.o.mu P.o) o x l[k].id val X (H0.ae y.o) (fun k N=>oW.o k (ap0 C.o.size (ap0 y.o.size N)))).mono (fun d z p=>(show(∃r,d=.returned r)/\(∃n,mS q l[k] n/\cz z f a e n.1 n.2/\fM a e R n.1 n.2)/\aO (fun k=>k=a\/k=e) _ z from⟨p.1,⟨p.2.1.choose,by unfold mS;rw[M];exact p.2.1.choose_spec.1,p.2.1.choose_spec.2.1,p.2.1.choose_spec.2.2⟩,p.2.2⟩)));go_wp2_with fail
    refine Q.o.mono ?_;rintro d w2 ⟨⟨r,rfl⟩,B,D⟩;obtain⟨n,E,F,I⟩:=B;have u:=aa (And.intro E (And.intro F (And.intro I (C.o.trans ((aO.cJ y.o).trans D)))));clear E F I D;go_wp2;go_roundw
    case rel=>exact⟨k+1,by omega,by go_num,⟨n,by rw[aqp W];exact .snoc P.o u.o.1,u.o.2.1,u.o.2.2.1⟩,u.o.2.2.2⟩
    case measure=>simp[intOf];omega
   rw[M]at L;have v:=L.o;simp only[vw]at v;obtain⟨s,v,H0⟩:=v;subst v;have y:=aa (show J wr (wr.alloc (.cells #[A l[k].id.1,A l[k].id.2,A l[k].nth,.iface 184 (.agg #[A o.1,A o.2,.string X,A x.1,A x.2,s])] 210)) from(apY _ wr).alloc (apX _) _);have Q:=aa ((aft (S.o.ae y.o) U.o (pV.o.mu P.o) o x l[k].id X (H0.ae y.o) (fun k N=>oW.o k (ap0 C.o.size (ap0 y.o.size N)))).mono (fun d z p=>(show(∃r,d=.returned r)/\(∃n,mS q l[k] n/\cz z f a e n.1 n.2/\fM a e R n.1 n.2)/\aO (fun k=>k=a\/k=e) _ z from⟨p.1,⟨p.2.1.choose,by unfold mS;rw[M];exact p.2.1.choose_spec.1,p.2.1.choose_spec.2.1,p.2.1.choose_spec.2.2⟩,p.2.2⟩)));go_wp2_with fail
   refine Q.o.mono ?_;rintro d w2 ⟨⟨r,rfl⟩,B,D⟩;obtain⟨n,E,F,I⟩:=B;have u:=aa (And.intro E (And.intro F (And.intro I (C.o.trans ((aO.cJ y.o).trans D)))));clear E F I D;go_wp2;go_roundw
   case rel=>exact⟨k+1,by omega,by go_num,⟨n,by rw[aqp W];exact .snoc P.o u.o.1,u.o.2.1,u.o.2.2.1⟩,u.o.2.2.2⟩
   case measure=>simp[intOf];omega
  go_wp2;go_end0
  refine⟨⟨_,rfl⟩,⟨q,?_,S.o,U.o⟩,C.o⟩;have :=P.o;rwa [aql (by omega)]at this
end Go.Proofs.YtnkpogjiiohapaaGreatDoor
