/- Our own text. -/
import Derived.Test.YtnkpogjiiohapaaGreatDoorA16
import Derived.Test.YtnkpogjiiohapaaGreatDoorA19
import Derived.Test.YtnkpogjiiohapaaGreatDoorA02
import Derived.Test.YtnkpogjiiohapaaGreatDoorA10
import Derived.Test.YtnkpogjiiohapaaGreatDoorA15
import Derived.Test.YtnkpogjiiohapaaGreatDoorA13
set_option linter.unusedSimpArgs false
set_option linter.unusedVariables false
set_option maxRecDepth 1000000
set_option maxHeartbeats 4000000
namespace Go.Proofs.YtnkpogjiiohapaaGreatDoor
section
open Go.RowKit Tryz
variable {a d e f k n w:Nat}{b:List ar}{c:List lj}{h m:Nat->Prop}{i j v:Value}{l:cX}{q r:PId}{s u:World}
def lI (x:ar):List ar->List ar
 |[]=>[x]
 |o::l=>if e2 o.op.id x.op.id=true then o::lI x l else x::o::l
def r8 (x:ar):List ar->Nat
 |[]=>0
 |o::l=>if e2 o.op.id x.op.id=true then r8 x l+1 else 0
def qA (l:List ar):Prop:=l.Pairwise fun a b=>e2 a.op.id b.op.id=true
theorem Qv(x:ar):∀l:List ar,lI x l=l.take (r8 x l)++x::l.drop (r8 x l)
 |[]=>rfl
 |o::l=>by
  unfold lI r8;split
  ·rw[List.take_succ_cons,List.drop_succ_cons,aqD,<-Qv x l]
  rfl
theorem Qw(x:ar):∀l:List ar,r8 x l<=l.length
 |[]=>apX _
 |o::l=>by
  unfold r8;split
  ·simpa using Qw x l
  simp
theorem Xj(x:ar):∀(l:List ar) (i:Nat) (a:i<l.length),i<r8 x l->e2 l[i].op.id x.op.id=true
 |o::l,0,_,h=>by
  unfold r8 at h;split at h
  ·simp_all
  omega
 |o::l,i+1,a,h=>by
  unfold r8 at h;split at h
  ·exact Xj x l i (by simp_all) (by omega)
  omega
theorem BE{c:PId}(a:e2 q r=true)(b:e2 r c=true):e2 q c=true:=by
 have x:=(qz q r).1 a;have y:=(qz r c).1 b;exact(qz q c).2 (by omega)
theorem uw(a:PId):e2 a a=false:=(zM a a).2 (by omega)
theorem Xk(h:q≠r)(b:¬e2 q r=true):e2 r q=true:=by
 cases a:e2 r q with
 |true=>rfl
 |false=>exact absurd (Qu (by simp_all) a) h
theorem Xl(x:ar):∀(l:List ar),qA l->(∀o∈l,o.op.id≠x.op.id)->∀(i:Nat) (a:i<l.length),r8 x l<=i->e2 x.op.id l[i].op.id=true
 |o::l,f,b,i,a,h=>by
  unfold r8 at h;have c:=aqU.1 f;split at h
  ·obtain⟨j,rfl⟩:∃j,i=j+1:=⟨i-1,by omega⟩;exact Xl x l c.2 (fun o g=>b o (aqh _ g)) j (by simp_all) (by omega)
  rename_i e
  have d:=Xk (b o aqf) e
  match i,a with
  |0,_=>exact d
  |i+1,a=>exact BE d (c.1 _ (ap6 _))
theorem FY(x:ar):∀l:List ar,(lI x l).Perm (x::l)
 |[]=>.refl _
 |o::l=>by
  unfold lI;split
  ·exact((FY x l).cons o).trans (.swap _ _ _)
  rfl
theorem Xm(x:ar):∀(l:List ar),qA l->(∀o∈l,o.op.id≠x.op.id)->qA (lI x l)
 |[],_,_=>asb _ _
 |o::l,c,d=>by
  have f:=aqU.1 c;unfold lI;split
  ·rename_i e
   refine aqU.2 ⟨fun b a=> ?_,Xm x l f.2 fun o h=>d o (aqh _ h)⟩;rcases aqb.1 ((FY x l).mem_iff.1 a) with rfl|a
   ·exact e
   simp_all
  rename_i e
  have g:=Xk (d o aqf) e;refine aqU.2 ⟨fun b a=> ?_,c⟩;rcases aqb.1 a with rfl|a
  ·exact g
  exact BE g (f.1 b a)
theorem Xn{x:ar}(h:a<=r8 x b):(lI x b).take a=b.take a:=by
 rw[Qv,arf (by rw[aqg];have :=Qw x b;omega),arG,show min a (r8 x b)=a by omega]
theorem Xo(x:ar)(l:List ar):(lI x l).length=l.length+1:=by have :=(FY x l).length_eq;omega
theorem agF(h:e2 q r=true):nV q r<0:=by simpa[e2]using h
theorem agG(h:e2 q r=true):0<nV r q:=by
 have :=(qz q r).1 h;unfold nV H2 vx;omega
structure qB (w:World) (ab sp su:Nat) (dm cf:Value) (ops:List ar) (e:Nat) (rs:List lj) (d aB be:Nat) (F I:Nat->Prop) (D0:nA) (D:cX):Prop where
 blk:nX w ab sp su dm cf d
 row:fN 0 w dm ops
 chg:∀o∈ops,pX w I (.iface o.t o.v) o.op.chg
 mem:um 0 w cf (rs.map (·.d))
 r3:1<=sp
 r4:sp<=50
 r5:su<sp
 le:e<=ops.length
 len:ops.length<=300
 vA:∀r∈rs,cz w r.d r.b r.e r.D.1 r.D.2/\fM r.b r.e (oz F rs aB be) r.D.1 r.D.2/\fH r.D
 mu:∀j (au:j<rs.length),j*sp-su<=e->Bz D0 ((ops.map (·.op)).take (j*sp-su)) rs[j].D
 q:cz w d aB be D.1 D.2
 own:fM aB be (oz F rs aB be) D.1 D.2
 jl:fH D
 maps:(nY rs aB be).Nodup
 pY:F ab
 pO:∀k,dm.ownBlock=some k->F k
 re:∀k,cf.ownBlock=some k->F k
 b3:∀r∈rs,F r.d/\F r.b/\F r.e
 fd:F d
 pc:F aB
 pd:F be
 lt:∀k,F k->k<w.heap.size
 eC:∀k,I k->¬F k
 cx:∀k,I k->k<w.heap.size
theorem kW.x{w e l F D0 D}(g:kW w a d f i v b e c k n l F h D0 D):qB w a d f i v b e c k n l F h D0 D:=
 ⟨g.blk,g.row,g.chg,g.mem,g.r3,g.r4,g.r5,g.le,g.len,g.vA,fun j m _=>g.mu j m,g.q,g.own,g.jl,g.maps,g.pY,g.pO,g.re,g.b3,g.fd,g.pc,g.pd,g.lt,g.eC,g.cx⟩
theorem qB.g{w sp su e D0}(n:qB w a sp su i v b e c d f k h m D0 l)(p:∀j,j<c.length->j*sp-su<=e)(r:Bz D0 ((b.map (·.op)).take e) l):kW w a sp su i v b e c d f k h m D0 l:=
 ⟨n.blk,n.row,n.chg,n.mem,n.r3,n.r4,n.r5,n.le,n.len,n.vA,fun j o=>n.mu j o (p j o),n.q,n.own,n.jl,r,n.maps,n.pY,n.pO,n.re,n.b3,n.fd,n.pc,n.pd,n.lt,n.eC,n.cx⟩
theorem qB.gw{sp su D0}(p:qB s a sp su i j b d c e f n h m D0 l)(C:s.heap.size<=u.heap.size)(y:∀k,h k->u.heap[k]?=s.heap[k]?)(E:∀k,m k->u.heap[k]?=s.heap[k]?):qB u a sp su i j b d c e f n h m D0 l:=by
 refine⟨?_,ca p.row fun g z=>y g (p.pO g z),fun o F=>(p.chg o F).ft E (fun _ x=>x),ca p.mem fun g z=>y g (p.re g z),p.r3,p.r4,p.r5,p.le,p.len,fun r D=> ?_,p.mu,p.q.apart p.own (y _ p.fd) (y _ p.pc) (y _ p.pd) fun k B=>y k B.1,p.own,p.jl,p.maps,p.pY,p.pO,p.re,p.b3,p.fd,p.pc,p.pd,fun k hF=>ap3 (p.lt k hF) C,p.eC,fun k hF=>ap3 (p.cx k hF) C⟩
 ·unfold nX;rw[y _ p.pY];exact p.blk
 obtain⟨v,t,w⟩:=p.vA r D;obtain⟨I,L,M⟩:=p.b3 r D;exact⟨v.apart t (y _ I) (y _ L) (y _ M) fun k B=>y k B.1,t,w⟩
theorem qB.ae{w e q r D0}{w':World}(g:qB w a d f i j b e c n q r h m D0 l)(o:J w w'):qB w' a d f i j b e c n q r h m D0 l:=g.gw o.size (fun k p=>o.block k (g.lt k p)) (fun k p=>o.block k (g.cx k p))
theorem qB.insert{Q M D0}(y:qB s f k n i Q b w M e a d h m D0 l)(hl:b.length<300){x:ar}(F:aO (fun p=>p=f\/i.ownBlock=some p) s u)(R:nX u f k n j Q e)(E:fN 0 u j (lI x b))(hn:iR s i j)(L:pX s m (.iface x.t x.v) x.op.chg):
  ∃W,qB u f k n j Q (lI x b) (min w (r8 x b)) M e a d W m D0 l/\c6 h W s u:=by
 have X:∀{e a d:Nat} {Y:List (PId×eO)} {ba:List (PId×dR)},cz s e a d Y ba->cz u e a d Y ba:=fun ak=>ak.kept F fun p D=>by
  rcases D with rfl|D
  ·exact⟨_,_,_,y.blk,by decide⟩
  obtain⟨cur,L⟩:=bq y.row D;exact⟨_,_,_,L,by decide⟩
 have A6:∀p∈nY M a d,p<s.heap.size:=fun p D=>by
  rcases lH.1 D with⟨r,E,rfl|rfl⟩|rfl|rfl
  ·exact y.lt _ (y.b3 r E).2.1
  ·exact y.lt _ (y.b3 r E).2.2
  ·exact y.lt _ y.pc
  exact y.lt _ y.pd
 have rf:∀p,oz h M a d p->oz (fun p=>h p\/(s.heap.size<=p/\p<u.heap.size)) M a d p:=fun p D=>⟨.inl D.1,D.2⟩
 have N:∀p,p∈nY M a d->¬oz (fun p=>h p\/(s.heap.size<=p/\p<u.heap.size)) M a d p:=fun p D R=>R.2 D
 have Xp:∀p,m p->¬(p=f\/i.ownBlock=some p):=fun p D I=>by
  rcases I with rfl|I
  ·exact y.eC _ D y.pY
  exact y.eC _ D (y.pO _ I)
 refine⟨fun p=>h p\/(s.heap.size<=p/\p<u.heap.size),⟨R,E,fun o S=> ?_,ca y.mem fun g ag=> ?_,y.r3,y.r4,y.r5,?_,by rw[Xo];omega,fun r E=> ?_,fun z au rj=> ?_,X y.q,y.own.mono rf (N _ (lH.2 (.inr (.inl rfl)))) (N _ (lH.2 (.inr (.inr rfl)))),y.jl,y.maps,.inl y.pY,fun p D=> ?_,fun p D=>.inl (y.re p D),fun r E=>⟨.inl (y.b3 r E).1,.inl (y.b3 r E).2.1,.inl (y.b3 r E).2.2⟩,.inl y.fd,.inl y.pc,.inl y.pd,fun p D=>D.elim (fun hF=>ap3 (y.lt p hF) F.size) (fun x=>x.2),fun p P D=>D.elim (y.eC p P) (fun x=>by have :=y.cx p P;omega),fun p P=>ap3 (y.cx p P) F.size⟩,⟨F.os,F.tape,F.output,F.size,fun p D hF=>F.other p D fun I=> ?_,fun p D=>D.imp id (·.1)⟩⟩
 ·rcases aqb.1 ((FY x b).mem_iff.1 S) with rfl|S
  ·exact L.ft (fun p D=>F.other p (y.cx p D) (Xp p D)) (fun _ x=>x)
  exact(y.chg o S).ft (fun p D=>F.other p (y.cx p D) (Xp p D)) (fun _ x=>x)
 ·obtain⟨cur,L⟩:=bq y.mem ag;refine F.other g (aN L) fun I=> ?_
  rcases I with rfl|I
  ·exact absurd (bK L y.blk) (by decide)
  obtain⟨hv,cg⟩:=bq y.row I;exact absurd (bK L cg) (by decide)
 ·rw[Xo];have :=y.le;omega
 ·obtain⟨B,C,c⟩:=y.vA r E;exact⟨X B,C.mono rf (N _ (lH.2 (.inl ⟨r,E,.inl rfl⟩))) (N _ (lH.2 (.inl ⟨r,E,.inr rfl⟩))),c⟩
 ·have :=y.mu z au (by omega);rw[<-aru]at this⊢;rw[Xn (by omega)];exact this
 ·rcases hn with U|U
  ·rw[U]at D;exact .inl (y.pO p D)
  refine .inr ⟨U p D,?_⟩;obtain⟨cur,L⟩:=bq E D;exact aN L
 rcases I with rfl|I
 ·exact hF y.pY
 exact hF (y.pO _ I)
theorem agH(h:(nY c n w).Nodup)(m:∀g∈nY c n w,g<k)(s:k<=a)(t:k<=d)(o:a≠d):(nY (c.take f) a d).Nodup:=by
 obtain⟨p,_,_⟩:=aqF.1 h;have j:((c.take f).flatMap fun r=>[r.b,r.e]).Sublist (c.flatMap fun r=>[r.b,r.e]):=by
  conv=>rhs;rw[<-arI f c]
  rw[aqG];simp
 refine aqF.2 ⟨j.nodup p,by simp[o],fun i q b l=> ?_⟩;have :=m i (aq3 _ (j.subset q));simp at l;rcases l with rfl|rfl<;>omega
theorem qB.back{P z B D0 W}(t:qB s d e P j v b z c B n w h m D0 l)(cv:a<c.length)(he:a*e-P<=z)(M:aO (fun q=>q=d\/v.ownBlock=some q) s u)(Q:nX u d e P j i W)(I:um 0 u i ((c.take (a+1)).map (·.d)))(aF:i.ownBlock=v.ownBlock)(N:cz u W f k c[a].D.1 c[a].D.2)(h1:s.heap.size<=W)(h2:s.heap.size<=f)(al:s.heap.size<=k)(aL:f≠k):
  ∃aR,kW u d e P j i b (a*e-P) (c.take (a+1)) W f k aR m D0 c[a].D/\c6 h aR s u:=by
 have DN:∀{B n w:Nat} {os:List (PId×eO)} {ba:List (PId×dR)},cz s B n w os ba->cz u B n w os ba:=fun N=>N.kept M fun q F=>by
  rcases F with rfl|F
  ·exact⟨_,_,_,t.blk,by decide⟩
  obtain⟨cur,R⟩:=bq t.mem F;exact⟨_,_,_,R,by decide⟩
 have A6:∀q∈nY c n w,q<s.heap.size:=fun q F=>by
  rcases lH.1 F with⟨r,I,rfl|rfl⟩|rfl|rfl
  ·exact t.lt _ (t.b3 r I).2.1
  ·exact t.lt _ (t.b3 r I).2.2
  ·exact t.lt _ t.pc
  exact t.lt _ t.pd
 have S:∀r,r∈c.take (a+1)->r∈c:=fun r I=>aqE I
 have X:∀q,oz h c n w q->oz (fun q=>h q\/(s.heap.size<=q/\q<u.heap.size)) (c.take (a+1)) f k q:=fun q F=>⟨.inl F.1,fun Q=>by
  have :=t.lt _ F.1;rcases lH.1 Q with⟨r,I,z⟩|rfl|rfl
  ·exact F.2 (lH.2 (.inl ⟨r,S r I,z⟩))
  ·omega
  omega⟩
 have Y:∀q,q∈nY (c.take (a+1)) f k->¬oz (fun q=>h q\/(s.heap.size<=q/\q<u.heap.size)) (c.take (a+1)) f k q:=fun q F Q=>Q.2 F
 obtain⟨_,_,Qm⟩:=N.af;obtain⟨_,_,FW⟩:=N.he;obtain⟨pe,Ma,kj⟩:=t.vA c[a] (ap6 cv);have hle:=t.le;refine⟨fun q=>h q\/(s.heap.size<=q/\q<u.heap.size),⟨Q,ca t.row fun g ag=> ?_,fun o af=>(t.chg o af).ft (fun q F=>M.other q (t.cx q F) fun L=> ?_) (fun _ x=>x),I,t.r3,t.r4,t.r5,by omega,t.len,fun r I=> ?_,fun C au=> ?_,N,⟨aL,Y _ (lH.2 (.inr (.inl rfl))),Y _ (lH.2 (.inr (.inr rfl))),fun p U y d=>X y (Ma.fG p U y d),fun p U q F y d=>X y (Ma.ij p U q F y d),fun p U y d=>X y (Ma.fX p U y d)⟩,kj,t.mu a cv he,agH t.maps A6 h2 al aL,.inl t.pY,fun q F=>.inl (t.pO q F),fun q F=>.inl (t.re q (aF▸F)),fun r I=>⟨.inl (t.b3 r (S r I)).1,.inl (t.b3 r (S r I)).2.1,.inl (t.b3 r (S r I)).2.2⟩,.inr ⟨h1,N.lt⟩,.inr ⟨h2,Qm.lt⟩,.inr ⟨al,FW.lt⟩,fun q F=>F.elim (fun hF=>ap3 (t.lt q hF) M.size) (fun x=>x.2),fun q hi F=>F.elim (t.eC q hi) (fun x=>by have :=t.cx q hi;omega),fun q hi=>ap3 (t.cx q hi) M.size⟩,⟨M.os,M.tape,M.output,M.size,fun q F hF=>M.other q F fun L=> ?_,fun q F=>F.imp id (·.1)⟩⟩
 ·obtain⟨cur,R⟩:=bq t.row ag;refine M.other g (aN R) fun L=> ?_
  rcases L with rfl|L
  ·exact absurd (bK R t.blk) (by decide)
  obtain⟨hv,cg⟩:=bq t.mem L;exact absurd (bK R cg) (by decide)
 ·rcases L with rfl|L
  ·exact t.eC _ F t.pY
  exact t.eC _ F (t.re _ L)
 ·obtain⟨D,y,E⟩:=t.vA r (S r I);exact⟨DN D,y.mono X (Y _ (lH.2 (.inl ⟨r,I,.inl rfl⟩))) (Y _ (lH.2 (.inl ⟨r,I,.inr rfl⟩))),E⟩
 ·rw[aqg]at au;have hjL:C*e<=a*e:=aqV e (by omega);rw[arR];exact t.mu C (by omega) (by omega)
 rcases L with rfl|L
 ·exact hF t.pY
 exact hF (t.re _ L)
end
section
open Go.RowKit Tryz
attribute [local go_sem ↓] Go.wp_at_zero Go.wp_at_succ
variable {a b d e f h:Nat}{c:List ar}
theorem Xq{e:Nat}(i:1<=a)(j:b<a):((b+e)/a)*a-b<=e/\(b+(((b+e)/a)*a-b))/a=(b+e)/a:=by
 have d:=Nat.div_add_mod (b+e) a;have f:=Nat.mod_lt (b+e) i;generalize(b+e)/a=L at *;generalize(b+e)%a=t at *;have c:a*L=L*a:=asj _ _;refine⟨by omega,?_⟩;by_cases h:b<=L*a
 ·rw[show b+(L*a-b)=L*a by omega,Nat.mul_div_cancel _ i]
 have k:L=0:=by
  rcases Nat.eq_zero_or_pos L with g|g
  ·exact g
  have :=aqV a g;omega
 simp_all
theorem agI(g:f=(b+d)/a+1)(h:e<f):e*a-b<=d:=by
 have c:e<=(b+d)/a:=by omega
 have i:=aqV a c;have j:=Nat.div_mul_le_self (b+d) a;omega
theorem agJ{w P s e l Y F I D0 D}(i:qB w d a b P s c e l f h Y F I D0 D)(t:(b+e)/a<l.length):
  O 190 #[Z d,A e] w fun r n=>∃vr' Q o p q m D',r=.returned (A ((((b+e)/a)*a-b:Nat):Int))/\kW n d a b P vr' c (((b+e)/a)*a-b) Q o p q m I D0 D'/\Q.length=(b+e)/a+1/\c6 F m w n:=by
 obtain⟨R,jJ⟩:=Xq (e:=e) i.r3 i.r5;have hle:=i.le;have hlen:=i.len;have eM:=i.r4;have wV:=i.r5;obtain⟨S,Ma,kj⟩:=i.vA l[(b+e)/a] (ap6 t);have U:(l.map (·.d))[(b+e)/a]?=some l[(b+e)/a].d:=by rw[ark,aq2 t];rfl
 have W:(l.take ((b+e)/a+1)).length=(b+e)/a+1:=by rw[aqg];omega
 rcases(show(b+e)/a+1=l.length\/(b+e)/a+1<l.length by omega) with v|v
 ·refine(afV i.blk i.mem e (by omega) i.r3 i.r4 (by omega) _ rfl (by rw[ap2];exact v) U S).mono ?_;rintro r n ⟨o,p,q,rfl,x,y,⟨z,B,C,E⟩,u⟩;have Qc:=u.mono (S':=fun k=>k=d\/s.ownBlock=some k) (fun k hk=>.inl hk);have gY:um 0 n s ((l.take ((b+e)/a+1)).map (·.d)):=by
   rw[aql (by omega)];exact ca i.mem fun g ag=>by
    obtain⟨cur,L⟩:=bq i.mem ag;exact u.other g (aN L) fun b0=>by
     rw[b0]at L;exact absurd (bK L i.blk) (by decide)
  obtain⟨m,M,N⟩:=i.back t R Qc x gY rfl y z B C E;exact⟨s,_,o,p,q,m,_,rfl,M,W,N⟩
 refine(afY i.blk i.mem e (by omega) i.r3 i.r4 (by omega) _ rfl (by rw[ap2];exact v) U S).mono ?_;rintro r n ⟨g,j,o,p,q,aF,rfl,x,X,y,⟨z,B,C,E⟩,u⟩;rw[<-aru]at X;obtain⟨m,M,N⟩:=i.back t R u x X aF.symm y z B C E;exact⟨_,_,o,p,q,m,_,rfl,M,W,N⟩
def iZ (a b:List ar):List ar:=b.foldl (fun l x=>lI x l) a
theorem Xr{b:List ar}(d:a<c.length):iZ b (c.take (a+1))=lI c[a] (iZ b (c.take a)):=by
 rw[aqp d];unfold iZ;rw[ara];rfl
theorem BF:∀(b a:List ar),(iZ a b).Perm (b++a)
 |[],a=>.refl _
 |x::b,a=>by
  exact((BF b (lI x a)).trans ((FY x a).append_left b)).trans List.perm_middle
theorem Qx(a b:List ar):(iZ a b).length=a.length+b.length:=by have :=(BF b a).length_eq;rw[ap4]at this;omega
theorem Mb:∀(b a:List ar),qA a->((b++a).map fun o=>o.op.id).Nodup->qA (iZ a b)
 |[],a,h,_=>h
 |x::b,a,h,c=>by
  simp only[aqD,aqj,aqw]at c;refine Mb b (lI x a) (Xm x a h fun o f e=>c.1 ?_) ?_
  ·simp_all
  have d:((b++lI x a).map fun o=>o.op.id).Perm ((x::(b++a)).map fun o=>o.op.id):=((((FY x a).append_left b).trans List.perm_middle).map _);exact d.nodup_iff.2 (by simp_all)
theorem agK{w dm cf n L be F I D0 D}(l:kW w d b a dm cf n n.length L f h be F I D0 D)(wF:L.length=(a+n.length)/b+1)(av:qA n)(m:List ar)(C:((m++n).map fun o=>o.op.id).Nodup)(hlen:n.length+m.length<=300)(v:Value)(aF:fN 0 w v m)(ux:∀k,v.ownBlock=some k->¬F k)(hc:∀x∈m,pX w I (.iface x.t x.v) x.op.chg):
  O 170 #[Z d,v] w fun e w'=>(∃r,e=.returned r)/\∃E vr' hP ch hZ h3 z D',kW w' d b a E vr' (iZ n m) (iZ n m).length hP ch hZ h3 z I D0 D'/\hP.length=(a+(iZ n m).length)/b+1/\c6 F z w w':=by
 obtain⟨ju,co,rfl,o8,Qn,zc⟩:=bm l.row;obtain⟨dr,dh,rfl,tW,vE,uy⟩:=bm aF;unfold maxLen at Qn vE;obtain⟨bf,a6,bc,bZ,ee⟩:=gb l.blk;have y:=aa (And.intro l (And.intro wF av));have M:=aa (And.intro aF (And.intro ux (And.intro hc C)));clear aF ux hc C;have Qy:=aa uy;clear uy;go_enter func170,ntmps170;go_wp2_with fail
 go_loopw [5,16] (fun e i wr=>∃k q E z,k<=m.length/\i=A (k:Nat)/\e=A (q:Nat)/\q<=n.length/\qB wr d b a E cf (iZ n (m.take k)) q L f h be z I D0 D/\(iZ n (m.take k)).take q=n.take q/\c6 F z w wr) (fun _ i _=>m.length-(intOf i).toNat)
 case atStart=>exact⟨0,n.length,_,F,apZ _,rfl,rfl,apX _,y.o.1.x,rfl,c6.cJ (apY _ _)⟩
 case round=>
  obtain⟨k,q,E,z,hk,rfl,rfl,oq,nW,nN,ck⟩:=hrel;have s:=aa (And.intro nW (And.intro nN ck));clear nW nN ck;have rk:=aa (show fN 0 wr (.slice dr m.length dh) m from ca M.o.1 fun g ag=>by
   obtain⟨cur,hc⟩:=bq M.o.1 ag;exact s.o.2.2.other g (aN hc) (M.o.2.1 g ag))
  by_cases aE:k<m.length
  ·obtain⟨g,rfl⟩:=Qy.o 0 (by omega);obtain⟨cC,aj,aw,cS⟩:=fN.cells rk.o k aE;have jR:(0:Int)<=(k:Int):=by simp
   have df:(k:Int)<(m.length:Int):=by omega
   have ay:=aa ((apY wr.heap.size wr).alloc (apX _) (.cells #[A m[k].op.id.1,A m[k].op.id.2,A m[k].op.nth,.iface m[k].t m[k].v] 210));have bW:=aa (s.o.1.ae ay.o);have o5:=aa (show(iZ n (m.take k)).length=n.length+k by rw[Qx,aqg];omega);have ny:=aa (show qA (iZ n (m.take k))/\∀o∈iZ n (m.take k),o.op.id≠m[k].op.id from by
    have C:=M.o.2.2.2;have p0:(m.take k++n).Sublist (m++n):=List.Sublist.append (List.take_sublist _ _) (List.Sublist.refl _);refine⟨Mb _ _ y.o.2.2 ((p0.map _).nodup C),fun o af e=> ?_⟩;have N:=(BF _ _).mem_iff.1 af;have r6:m=m.take k++m[k]::m.drop (k+1):=by
     simp
    rw[r6,aqs,aqi,aqF]at C;obtain⟨_,b8,oN⟩:=C;rcases ap7.1 N with N|N
    ·exact oN _ (ap5.2 ⟨o,N,rfl⟩) _ (ap5.2 ⟨m[k],aq3 _ aqf,rfl⟩) e
    rw[aqD,aqj,aqw]at b8;exact b8.1 (ap5.2 ⟨o,arW _ N,e⟩))
   obtain⟨p,P⟩:∃p,p=r8 m[k] (iZ n (m.take k)):=⟨_,rfl⟩;have gd:p<=n.length+k:=by rw[P,<-o5.o];exact Qw _ _
   have cW:=aa (afT bW.o.blk bW.o.row m[k] p (by rw[o5.o];omega) (fun i hi Qz=>agF (Xj _ _ i hi (P▸Qz))) (fun i hi Qz=>agG (Xl _ _ ny.o.1 ny.o.2 i hi (P▸Qz))) (by rw[o5.o];omega));have et:=aa P;clear P;obtain⟨u,OV⟩:∃u,u=min q p:=⟨_,rfl⟩;go_wp2_with fail
   refine cW.o.mono ?_;rintro e w2 ⟨Xs,rfl,qT,gU,jJ,hM⟩;have Q:=aa (show ∃R,qB w2 d b a Xs cf (iZ n (m.take (k+1))) u L f h be R I D0 D/\c6 z R (wr.alloc (.cells #[A m[k].op.id.1,A m[k].op.id.2,A m[k].op.nth,.iface m[k].t m[k].v] 210)) w2 from by
    rw[Xr aE,OV,et.o];refine bW.o.insert (by rw[o5.o];omega) hM qT (by rw[Qv,<-et.o];omega) jJ ?_;exact(M.o.2.2.1 m[k] (ap6 aE)).ft (fun j S=>(ay.o.block j (s.o.1.cx j S)).trans (s.o.2.2.other j (y.o.1.cx j S) (y.o.1.eC j S))) (fun _ x=>x))
   clear qT gU jJ hM;obtain⟨R,Xt,U⟩:=Q.o;clear Q;have Q:=aa (And.intro Xt (s.o.2.2.trans (U.before ay.o)));clear Xt U;have Xu:(iZ n (m.take (k+1))).take u=n.take u:=by
    rw[Xr aE,Xn (by rw[<-et.o];omega)];have :=congrArg (List.take u) s.o.2.1;rwa [arG,arG,show min u q=u by omega]at this
   have r9:=aa Xu;clear Xu;go_wp2;rw[show min (q:Int) (p:Int)=((u:Nat):Int) by omega];go_roundw
   case rel=>exact⟨k+1,u,Xs,R,by omega,by go_num,rfl,by omega,Q.o.1,r9.o,Q.o.2⟩
   case measure=>simp[intOf];omega
  have ho:k=m.length:=by omega
  subst ho;rw[ari]at s;have bR:=aa (Qx n m);by_cases heq:q<n.length
  ·have cv:(a+q)/b<L.length:=by
    rw[y.o.2.1];have :=Nat.div_le_div_right (c:=b) (show a+q<=a+n.length by omega);omega
   have aK:=aa (agJ s.o.1 cv);have HJ:=aa (Xq (e:=q) s.o.1.r3 s.o.1.r5);go_wp2_with fail
   refine aK.o.mono ?_;rintro e w2 ⟨vr2,rs2,d2,bo2,eG,R,gR,rfl,wW,jj,U⟩;have dN:=aa (W2 wW (by rw[jj,HJ.o.2]));have jS:=aa (s.o.2.2.trans U);clear wW jj U;go_wp2_with fail
   refine dN.o.mono ?_;rintro e w3 ⟨⟨r,rfl⟩,QA,QB,sa,Io,W,X,Y⟩;have B:=aa (And.intro W (And.intro X (jS.o.trans Y)));clear W X Y;go_wp2;go_end0
   exact⟨⟨_,rfl⟩,E,QA,QB,d2,bo2,eG,sa,Io,B.o.1,B.o.2.1,B.o.2.2⟩
  obtain rfl:q=n.length:=by omega
  have dz:=s.o.1.g (fun j S=>agI y.o.2.1 S) (by
   rw[<-aru,s.o.2.1];have :=y.o.1.did;rwa [<-aru]at this)
  have dN:=aa (W2 dz y.o.2.1);clear dz;go_wp2_with fail
  refine dN.o.mono ?_;rintro e w3 ⟨⟨r,rfl⟩,QA,QB,sa,Io,W,X,Y⟩;have B:=aa (And.intro W (And.intro X (s.o.2.2.trans Y)));clear W X Y;go_wp2;go_end0
  exact⟨⟨_,rfl⟩,E,QA,QB,f,h,be,sa,Io,B.o.1,B.o.2.1,B.o.2.2⟩
end
section
open Go.RowKit Tryz
structure Is (t:TypeId):Prop where
 eql:∀(x y:PId) (W:World),(Op.equal t (c0 x) (c0 y)).run prog W=.ok (eF x.1 x.2 y.1 y.2) W
 check:∀(b:Bool) (x:PId) (W:World),(Instr.checkKey b 10000 t (c0 x)).run prog W=.ok () W
 under:∃BG,prog.underlying t=some (.struct BG)
theorem Xv {t:TypeId} (a:Is t) {ν:Type} (c:ν->Value) (x:PId) (W:World):∀(b:List MapEntry) (m:List (PId×ν)) (i:Nat),kL c0 c b m->
  (Instr.findAsking t (c0 x) b i).run prog W=.ok ((kt x m i).map fun r=>(r.1,c r.2)) W
 |[],[],i,_=>rfl
 |[],p::m,i,h=>by simp[kL]at h
 |e::b,[],i,h=>by simp[kL]at h
 |e::b,p::m,i,h=>by
  unfold kL at h;simp only[aqj,asd,arL]at h;obtain⟨⟨f,g⟩,j⟩:=h;rw[Instr.findAsking,f];have :=a.eql x p.1 W;simp only[aqt,this,aqz,Og];unfold kt;by_cases d:x=p.1
  ·simp[d,g]
  simp only[d,decide_false,if_false,aqM];exact Xv a c x W b m (i+1) j
theorem Is.key{t}(a:Is t):xI PId t c0:=⟨a.check,fun c x W b m h=>by
 obtain⟨d,f⟩:=a.under;unfold Instr.findKey;rw[aqt,run_underlying f,aqz];cases b with
 |nil=>
  have :m=[]:=by unfold kL at h;simp_all
  subst this;rfl
 |cons e b=>
  have g:Instr.findNow (TypeDesc.struct d) (c0 x) (e::b) 0=none:=rfl;rw[g];exact Xv a c x W _ m 0 h,TV⟩
theorem agL:Is 371:=by
 refine⟨fun x y W=> ?_,fun b x W=> ?_,⟨_,underlying371⟩⟩
 ·unfold c0;show(Op.equalIn (9998+1+1) 371 _ _).run prog W=_;go_simp;unfold eF;by_cases c:x.1=y.1<;>by_cases d:x.2=y.2<;>simp[c,d]
 unfold c0;have e:∀(n:Nat) (a:Int),(Instr.checkKey b (n+1) 3 (A a)).run prog W=.ok () W:=fun n a=>by
  rw[Instr.checkKey];go_simp
 rw[Instr.checkKey];go_simp
theorem agM:Is 164:=by
 refine⟨fun x y W=> ?_,fun b x W=> ?_,⟨_,underlying164⟩⟩
 ·unfold c0;show(Op.equalIn (9998+1+1) 164 _ _).run prog W=_;go_simp;unfold eF;by_cases c:x.1=y.1<;>by_cases d:x.2=y.2<;>simp[c,d]
 unfold c0;have e:∀(n:Nat) (a:Int),(Instr.checkKey b (n+1) 3 (A a)).run prog W=.ok () W:=fun n a=>by
  rw[Instr.checkKey];go_simp
 rw[Instr.checkKey];go_simp
theorem Mc:xI PId 371 c0:=agL.key
theorem QC:xI PId 164 c0:=agM.key
def zN (n:Int):Value:=A n
theorem agN(b:Bool)(x:Int)(W:World):(Instr.checkKey b 10000 3 (zN x)).run prog W=.ok () W:=by
 rw[Instr.checkKey];go_simp
theorem Xw {ν:Type} (b:ν->Value) (x:Int):∀(a:List MapEntry) (m:List (Int×ν)) (i:Nat),kL zN b a m->Instr.findNow (.int .i64) (zN x) a i=some ((kt x m i).map fun r=>(r.1,b r.2))
 |[],[],i,_=>rfl
 |[],p::m,i,h=>by simp[kL]at h
 |e::a,[],i,h=>by simp[kL]at h
 |e::a,p::m,i,h=>by
  unfold kL at h;simp only[aqj,asd,arL]at h;obtain⟨⟨c,j⟩,d⟩:=h;unfold Instr.findNow;have f:Instr.sameNow (.int .i64) (zN x) e.key=some (decide (x=p.1)):=by
   rw[c];rfl
  rw[f];unfold kt;by_cases g:x=p.1
  ·simp_all
  simp only[g,decide_false,if_false];exact Xw b x a m (i+1) d
theorem Xx:xI Int 3 zN:=⟨agN,fun a x W b m h=>by
 unfold Instr.findKey;rw[aqt,run_underlying underlying3,aqz,Xw a x b m 0 h];rfl,fun x=>by simp[zN,Instr.sameBits]⟩
end
section
open Go.RowKit Tryz
attribute [local go_sem ↓] Go.wp_at_zero Go.wp_at_succ
variable {a c f k m n q:Nat}{b:List ar}{d e:Nat->Prop}{h:Nat->Int}{i l:World}
def p1 (N:Nat) (a:Nat->Int):Array Value:=((List.range N).map fun i=>A (a i)).toArray
theorem agO{has:Nat->Int}(h:a<c):(p1 c has)[a]?=some (A (has a)):=by
 simp[p1,h]
theorem agP(m:Int):(p1 a h).setIfInBounds c (A m)=p1 a (upd h c m):=by
 apply Array.ext_getElem?;intro i;rw[arJ];by_cases d:c=i
 ·subst d;by_cases b:c<a
  ·simp[p1,b,upd]
  simp[p1,b]
 rw[if_neg d];by_cases b:i<a
 ·simp[p1,b,upd,aqa d]
 simp[p1,b]
def QD (o:ar):Value:=.agg #[A o.op.id.1,A o.op.id.2,A o.op.nth,.iface o.t o.v]
def QE (N:Nat) (g:Nat):Value:=.slice (some (H g)) N N
structure fS where
 eR:Nat
 ab:Nat
 ik:Nat
 jm:Nat
 su:Nat
 d:Nat
 aB:Nat
 be:Nat
 dm:Value
 cf:Value
 rs:List lj
 D0:nA
 D:cX
 kX:List (Int×Nat)
 ea:Nat->List Int
 yv:Nat->Prop
variable {j:fS}
def FZ (q a:fS):Prop:=a.D0=q.D0/\a.kX=q.kX/\a.ea=q.ea
structure dA (w:World) (a1:Nat) (F I:Nat->Prop) (N sp c:Nat) (gt:Int) (has:Nat->Int) (ops:List ar) (early:List (PId×ar)) (q:fS):Prop where
 blk:w.heap[a1]?=some (.cells #[A c,A gt,.slice (some (H q.eR)) N N,Z q.ab,.map (some q.ik),.map (some q.jm)] 109 (0,0))
 heard:w.heap[q.eR]?=some (.cells (p1 N has) 3 (0,0))
 jT:kW w q.ab sp q.su q.dm q.cf ops ops.length q.rs q.d q.aB q.be q.yv I q.D0 q.D
 cnt:q.rs.length=(q.su+ops.length)/sp+1
 jB:qA ops
 emap:∃es aT,isMap c0 QD w q.ik early es aT
 BH:∀p∈early,pX w I (.iface p.2.t p.2.v) p.2.op.chg
 DV:∃es aT,isMap zN (QE N) w q.jm q.kX es aT
 zO:∀p∈q.kX,((q.ea p.2).length=N/\w.heap[p.2]?=some (.cells ((q.ea p.2).map fun x=>A x).toArray 3 (0,0)))/\p.2≠q.eR/\F p.2/\¬q.yv p.2
 hc:c<N
 hN:N<=4
 b3:F a1
 fA:F q.eR
 pf:F q.ik
 vF:F q.jm
 q3:∀k,q.yv k->F k
 pg:¬q.yv a1
 BI:¬q.yv q.eR
 BJ:¬q.yv q.ik
 DW:¬q.yv q.jm
 DX:q.ik≠q.jm
 lt:∀k,F k->k<w.heap.size
 eC:∀k,I k->¬F k
theorem dA.gw{w e F I N sp c gt has f early q}{b:World}(h:dA w e F I N sp c gt has f early q)(g:w.heap.size<=b.heap.size)(a:∀k,F k->b.heap[k]?=w.heap[k]?)(i:∀k,I k->b.heap[k]?=w.heap[k]?):dA b e F I N sp c gt has f early q:=by
 obtain⟨j,l,m⟩:=h.emap;obtain⟨n,o,r⟩:=h.DV;refine⟨by rw[a _ h.b3];exact h.blk,by rw[a _ h.fA];exact h.heard,h.jT.gw g (fun k hF=>a k (h.q3 k hF)) i,h.cnt,h.jB,⟨j,l,m.gJ (a _ h.pf)⟩,fun p d=>(h.BH p d).ft i (fun _ x=>x),⟨n,o,r.gJ (a _ h.vF)⟩,fun p d=> ?_,h.hc,h.hN,h.b3,h.fA,h.pf,h.vF,h.q3,h.pg,h.BI,h.BJ,h.DW,h.DX,fun k hF=>ap3 (h.lt k hF) g,h.eC⟩;obtain⟨⟨s,t⟩,u,v,y⟩:=h.zO p d
 simp_all
theorem dA.ae{w c gt has early}{w':World}(h:dA w a d e f m c gt has b early j)(g:J w w'):dA w' a d e f m c gt has b early j:=h.gw g.size (fun k i=>g.block k (h.lt k i)) (fun k i=>g.block k (h.jT.cx k i))
theorem dA.cells{w sp c gt has early}(h:dA w a d e f sp c gt has b early j):w.cell? (H a)=some (A c)/\w.cell? (K a 1)=some (A gt)/\w.cell? (K a 2)=some (.slice (some (H j.eR)) f f)/\w.cell? (K a 3)=some (Z j.ab)/\w.cell? (K a 4)=some (.map (some j.ik))/\w.cell? (K a 5)=some (.map (some j.jm)):=by
 refine⟨?_,?_,?_,?_,?_,?_⟩<;>simp[World.cell?,h.blk]
theorem dA.F0{c gt has early}(h:dA i k d e f m c gt has b early j)(g:a<f):i.cell? (K j.eR a)=some (A (has a)):=by
 have :=agO (has:=has) g;simp[World.cell?,h.heard,this]
theorem dA.cx{w a F I N sp c gt has b early q}(h:dA w a F I N sp c gt has b early q):∀k,I k->k<w.heap.size:=h.jT.cx
theorem dA.rg{gt early}(g:dA i a d e c f k gt h b early j):a≠j.eR:=fun l=>by
 have m:=g.blk;rw[l]at m;exact absurd (bK m g.heard) (by decide)
theorem dA.count{gt M early}(g:dA l a d e c k f gt M b early j){E:Int}(q:aO (fun m=>m=a\/m=j.eR) l i)(N:i.heap[a]?=some (.cells #[A f,A E,.slice (some (H j.eR)) c c,Z j.ab,.map (some j.ik),.map (some j.jm)] 109 (0,0)))(P:i.heap[j.eR]?=some (.cells (p1 c h) 3 (0,0))):dA i a d e c k f E h b early j:=by
 have r:=fun m hF Q R=>q.other m (g.lt m hF) fun w=>w.elim Q R
 have F:=fun m y=>q.other m (g.cx m y) fun w=>by
  rcases w with rfl|rfl
  ·exact g.eC _ y g.b3
  exact g.eC _ y g.fA
 obtain⟨s,t,z⟩:=g.emap;obtain⟨S,U,B⟩:=g.DV;have u:∀(o:Nat) (s:Array MapEntry) (t:Nat),l.heap[o]?=some (.map s t)->o≠a/\o≠j.eR:=fun o s t v=>by
  constructor
  ·rintro rfl;rw[g.blk]at v;cases v
  rintro rfl;rw[g.heard]at v;cases v
 refine⟨N,P,g.jT.gw q.size (fun m hF=>r m (g.q3 m hF) (fun n=>g.pg (n▸hF)) (fun n=>g.BI (n▸hF))) F,g.cnt,g.jB,⟨s,t,z.gJ (r _ g.pf (u _ _ _ z.blk).1 (u _ _ _ z.blk).2)⟩,fun p C=>(g.BH p C).ft F (fun _ x=>x),⟨S,U,B.gJ (r _ g.vF (u _ _ _ B.blk).1 (u _ _ _ B.blk).2)⟩,fun p C=> ?_,g.hc,g.hN,g.b3,g.fA,g.pf,g.vF,g.q3,g.pg,g.BI,g.BJ,g.DW,g.DX,fun m hF=>ap3 (g.lt m hF) q.size,g.eC⟩;obtain⟨⟨W,D⟩,I,L,X⟩:=g.zO p C;refine⟨⟨W,?_⟩,I,L,X⟩;rw[r _ L (fun n=> ?_) I]
 ·exact D
 rw[n]at D;exact absurd (bK D g.blk) (by decide)
theorem dA.agQ{I gt P early B C E y F L u}(g:dA l f e I k a m gt h P early j)(r:c6 j.yv u l i)(M:kW i j.ab a c C E b b.length y n q B u I F L)(Q:y.length=(c+b.length)/a+1)(R:qA b):
  ∃N,dA i f N I k a m gt h b early {j with su:=c,d:=n,aB:=q,be:=B,dm:=C,cf:=E,rs:=y,D0:=F,D:=L,yv:=u}/\c6 e N l i:=by
 have v:=fun o hF s=>r.other o (g.lt o hF) s
 have w:∀o,e o->¬j.yv o->¬u o:=fun o hF s S=>(r.sub o S).elim s fun x=>by have :=g.lt o hF;omega
 obtain⟨U,W,X⟩:=g.emap;obtain⟨Y,jA,s⟩:=g.DV;refine⟨fun o=>e o\/(l.heap.size<=o/\o<i.heap.size),⟨by rw[v _ g.b3 g.pg];exact g.blk,by rw[v _ g.fA g.BI];exact g.heard,M,Q,R,⟨U,W,X.gJ (v _ g.pf g.BJ)⟩,fun p z=>(g.BH p z).ft (fun o t=>r.other o (g.cx o t) (g.jT.eC o t)) (fun _ x=>x),⟨Y,jA,s.gJ (v _ g.vF g.DW)⟩,fun p z=> ?_,g.hc,g.hN,.inl g.b3,.inl g.fA,.inl g.pf,.inl g.vF,fun o hF=>(r.sub o hF).imp (g.q3 o) fun x=>⟨x,M.lt o hF⟩,w _ g.b3 g.pg,w _ g.fA g.BI,w _ g.pf g.BJ,w _ g.vF g.DW,g.DX,fun o hF=>hF.elim (fun x=>ap3 (g.lt o x) r.size) (fun x=>x.2),fun o t hF=>hF.elim (g.eC o t) (fun x=>by have :=g.cx o t;omega)⟩,⟨r.os,r.tape,r.output,r.size,fun o cN hF=>r.other o cN fun x=>hF (g.q3 o x),fun o hF=>hF.imp id (·.1)⟩⟩;obtain⟨⟨al,aL⟩,b1,e9,ga⟩:=g.zO p z
 simp_all
def nB (gt:Int) (a:List ar):Int:=a.foldl (fun g x=>max g x.op.id.1) gt
def hasAll (has:Nat->Int) (a:List ar):Nat->Int:=a.foldl (fun h x=>upd h x.op.id.2.toNat x.op.nth) has
theorem agR{gt:Int}(c:a<b.length):nB gt (b.take (a+1))=max (nB gt (b.take a)) b[a].op.id.1:=by
 rw[aqp c];unfold nB;rw[ara];rfl
theorem agS(c:a<b.length):hasAll h (b.take (a+1))=upd (hasAll h (b.take a)) b[a].op.id.2.toNat b[a].op.nth:=by
 rw[aqp c];unfold hasAll;rw[ara];rfl
theorem Xz{gt I early}(h:dA i a d e c f k gt I b early j)(q:List ar)(cO:((q++b).map fun o=>o.op.id).Nodup)(hlen:b.length+q.length<=300)(N:∀x∈q,0<=x.op.id.2/\x.op.id.2<c)(v:Value)(aF:fN 0 i v q)(ux:∀l,v.ownBlock=some l->¬d l)(Y:∀x∈q,pX i e (.iface x.t x.v) x.op.chg):
  O 142 #[Z a,v] i fun n w'=>(∃r,n=.returned r)/\∃P fT,dA w' a P e c f k (nB gt q) (hasAll I q) (iZ b q) early fT/\FZ j fT/\c6 d P i w':=by
 obtain⟨dr,dh,rfl,tW,vE,uy⟩:=bm aF;unfold maxLen at vE;have BL:=h.hN;have y:=aa h;have B:=aa (And.intro aF (And.intro ux (And.intro Y (And.intro cO N))));have Qy:=aa uy;go_enter func142,ntmps142;go_wp2_with fail
 go_loopw [8] (fun m wr=>∃l,l<=q.length/\m=A (l:Nat)/\dA wr a d e c f k (nB gt (q.take l)) (hasAll I (q.take l)) b early j/\aO (fun l=>l=a\/l=j.eR) i wr) (fun m _=>q.length-(intOf m).toNat)
 case atStart=>exact⟨0,apZ _,rfl,y.o,aO.cJ (apY _ _)⟩
 case round=>
  obtain⟨l,z,rfl,bA,C⟩:=hrel;have s:=aa (And.intro bA C);have rk:=aa (show fN 0 wr (.slice dr q.length dh) q from ca B.o.1 fun g ag=>by
   obtain⟨cur,Y⟩:=bq B.o.1 ag;exact s.o.2.other g (aN Y) fun L=>by
    rcases L with rfl|rfl
    ·exact B.o.2.1 _ ag y.o.b3
    exact B.o.2.1 _ ag y.o.fA)
  by_cases Q:l<q.length
  ·obtain⟨g,rfl⟩:=Qy.o 0 (by omega);obtain⟨cC,aj,aw,cS⟩:=fN.cells rk.o l Q;have jR:(0:Int)<=(l:Int):=by simp
   have df:(l:Int)<(q.length:Int):=by omega
   obtain⟨jY,eN⟩:=B.o.2.2.2.2 q[l] (ap6 Q);obtain⟨x,R⟩:∃x,x=q[l]:=⟨_,rfl⟩;rw[<-R]at cC aj aw cS jY eN;obtain⟨w,N⟩:∃w:Nat,x.op.id.2=(w:Int):=⟨x.op.id.2.toNat,by omega⟩;have Iu:w<c:=by omega
   obtain⟨bf,a6,bc,bZ,ee,jC⟩:=s.o.1.cells;have sc:=s.o.1.F0 Iu;obtain⟨gk,mY⟩:∃gk,gk=nB gt (q.take l):=⟨_,rfl⟩;obtain⟨S,nk⟩:∃S,S=hasAll I (q.take l):=⟨_,rfl⟩;have hG1:nB gt (q.take (l+1))=max gk x.op.id.1:=by rw[agR Q,mY,R]
   have hH1:hasAll I (q.take (l+1))=upd S w x.op.nth:=by rw[agS Q,nk,<-R,N];rfl
   rw[<-mY]at a6 s;rw[<-nk]at sc s;rw[N]at aj;have pK:=aa (And.intro hG1 hH1);clear mY nk R;obtain⟨U,mz⟩:∃U,U=max gk x.op.id.1:=⟨_,rfl⟩;have pJ:=s.o.1.lt _ s.o.1.b3;have c9:=s.o.1.lt _ s.o.1.fA;have X:=s.o.1.rg;have kK:=cG s.o.1.blk 1;have bW:=aa (ago (u:=A U) s.o.1.blk);obtain⟨E,M⟩:∃E,E=wr.setCell (K a 1) (A U):=⟨_,rfl⟩;rw[<-M]at bW;have LQ:E.heap.size=wr.heap.size:=by rw[M];simp
   have iA:=aa (show aO (fun l=>l=a) wr E by rw[M];exact aO.kU _ rfl);have XA:(0:Int)<=(w:Int):=by simp
   have L0:(w:Int)<(c:Int):=by omega
   have hwn:wr.heap.size≠a:=by omega
   have A9:wr.heap.size≠j.eR:=by omega
   go_wp2_with fail
   go_region
   go_wp2_with fail
   rw[<-mz,<-M];have HGN:=aa mz;clear a6 kK mz M;have d2:E.cell? (K a 2)=some (.slice (some (H j.eR)) c c):=by simp[World.cell?,bW.o]
   have dO:=aa ((iA.o.other j.eR c9 (aqa X)).trans s.o.1.heard);have d4:=iA.o.cell (aqa X) sc;have Hk:=cG dO.o w;obtain⟨n0,cH,b8,oN⟩:=ym E (A x.op.id.1) (A w) (A x.op.nth) (.iface x.t x.v) 210;rw[LQ]at cH b8;obtain⟨D,ra⟩:∃D,E.setCell (K j.eR w) (A x.op.nth)=D:=⟨_,rfl⟩;have XB:D.heap.size=wr.heap.size:=by rw[<-ra,<-LQ];simp
   have iy:=aa (show aO (fun l=>l=j.eR) E D by rw[<-ra];exact aO.kU _ rfl);have f2:=iy.o.cell X d2;obtain⟨Ql,q1,j1,n5⟩:=ym D (A x.op.id.1) (A w) (A x.op.nth) (.iface x.t x.v) 210;rw[XB]at q1 j1;go_region_held3 (fun W=>W.cell? (K a 2)=some (.slice (some (H j.eR)) c c)/\W.cell? (V wr 1)=some (A w)/\W.cell? (V wr 2)=some (A x.op.nth)) (go_keep) (fail)
   go_wp2;go_roundw
   case rel=>
    have dN:=show D.heap[j.eR]?=some (.cells (p1 c (upd S w x.op.nth)) 3 (0,0)) by rw[<-ra,setRow dO.o,agP]
    have cB:=(iy.o.other a (by omega) X).trans bW.o;have a8:J D (D.alloc (.cells #[A x.op.id.1,A w,A x.op.nth,.iface x.t x.v] 210)).drew.drew:=((apY _ D).alloc (apX _) _).drew.drew;have hM:=(iA.o.mono (S':=fun l=>l=a\/l=j.eR) fun l z=>.inl z).trans (iy.o.mono fun l z=>.inr z);refine⟨l+1,by omega,by go_num,?_,s.o.2.trans (hM.trans (aO.cJ a8))⟩;rw[pK.o.1,pK.o.2,<-HGN.o];exact(s.o.1.count hM cB dN).ae a8
   case measure=>simp[intOf];omega
  have ho:l=q.length:=by omega
  subst ho;rw[ari]at s;obtain⟨bf,a6,bc,bZ,ee,jC⟩:=s.o.1.cells;have bY:=aa (agK s.o.1.jT s.o.1.cnt s.o.1.jB q B.o.2.2.2.1 hlen (.slice dr q.length dh) rk.o (fun l z hF=>B.o.2.1 l z (y.o.q3 l hF)) (fun x ao=>(B.o.2.2.1 x ao).ft (fun p au=>s.o.2.other p (y.o.cx p au) fun L=>by
   rcases L with rfl|rfl
   ·exact y.o.eC _ au y.o.b3
   exact y.o.eC _ au y.o.fA) (fun _ x=>x)))
  go_wp2_with fail
  refine bY.o.mono ?_;rintro n w3 ⟨⟨r,rfl⟩,o9,vr',hP,ch,hZ,h3,It,D',DT,sb,DU⟩;have nw:=aa (And.intro DT (And.intro sb DU));go_wp2;go_end0
  obtain⟨P,DY,F⟩:=s.o.1.agQ nw.o.2.2 nw.o.1 nw.o.2.1 (Mb q b s.o.1.jB B.o.2.2.2.1);have C:=s.o.2;refine⟨⟨_,rfl⟩,P,_,DY,⟨rfl,rfl,rfl⟩,?_⟩;exact⟨F.os.trans C.os,F.tape.trans C.tape,F.output.trans C.output,ap0 C.size F.size,fun l z hF=>(F.other l (ap3 z C.size) hF).trans (C.other l z fun L=>by
   rcases L with rfl|rfl
   ·exact hF y.o.b3
   exact hF y.o.fA),fun l z=>(F.sub l z).imp id fun x=>ap0 C.size x⟩
theorem kW.zP{g j l p F D0 D}{I':Nat->Prop}(h:kW i a c f g j b k l m n p F d D0 D)(r:∀e,d e->I' e)(s:∀e,I' e->e<i.heap.size)(t:∀e,I' e->¬F e):kW i a c f g j b k l m n p F I' D0 D:=
 ⟨h.blk,h.row,fun o u=>(h.chg o u).ft (fun _ _=>rfl) r,h.mem,h.r3,h.r4,h.r5,h.le,h.len,h.vA,h.mu,h.q,h.own,h.jl,h.did,h.maps,h.pY,h.pO,h.re,h.b3,h.fd,h.pc,h.pd,h.lt,t,s⟩
theorem dA.zP{w a F I N b c gt d e early q}{I':Nat->Prop}(h:dA w a F I N b c gt d e early q)(f:∀k,I k->I' k)(i:∀k,I' k->k<w.heap.size)(g:∀k,I' k->¬F k):dA w a F I' N b c gt d e early q:=
 ⟨h.blk,h.heard,h.jT.zP f i fun k j hF=>g k j (h.q3 k hF),h.cnt,h.jB,h.emap,fun p l=>(h.BH p l).ft (fun _ _=>rfl) f,h.DV,h.zO,h.hc,h.hN,h.b3,h.fA,h.pf,h.vF,h.q3,h.pg,h.BI,h.BJ,h.DW,h.DX,h.lt,g⟩
theorem dA.set{sp gt early q}(j:dA i a d e c sp f gt h b early q){g:Nat}(u:Value)(p:¬d g)(r:¬e g):dA (i.setCell (K g m) u) a d e c sp f gt h b early q:=by
 have o:aO (fun k=>k=g) i (i.setCell (K g m) u):=aO.kU _ rfl;exact j.gw o.size (fun k n=>o.other k (j.lt k n) fun l=>p (l▸n)) (fun k n=>o.other k (j.cx k n) fun l=>r (l▸n))
theorem yw{I sp gt early}(g:dA i a e I c sp f gt h b early j):
  O 48 #[Z a] i fun k l=>k=.returned (Z j.d)/\J i l:=by
 obtain⟨n,o,p,q,ee,r⟩:=g.cells;go_enter func48,ntmps48;go_wp2_with fail
 refine(afA (sp:=sp) (su:=j.su) (by have :=g.jT.blk;exact this)).mono ?_;rintro k s ⟨rfl,m⟩;go_wp2;go_ret
 exact⟨rfl,m⟩
theorem Iv{gt m early}(h:dA i c d e f k a gt m b early j)(g:Nat)(o:g<=10):
  O 60 #[Z c,A g] i fun l w'=>l=.returned (.bool (decide (m a+g<=60)))/\J i w':=by
 obtain⟨p,q,r,s,ee,t⟩:=h.cells;have u:=h.F0 h.hc;have v:(0:Int)<=(a:Int):=by simp
 have w:(a:Int)<(f:Int):=by have :=h.hc;omega
 have x:=h.hc;have y:=h.hN;have n:decide (m a<=60-(g:Int))=decide (m a+g<=60):=by congr 1;apply propext;omega
 go_enter func60,ntmps60;go_wp2_with fail
 go_region_held3 (fun W=>W.cell? (H c)=some (A a)/\W.cell? (K c 2)=some (.slice (some (H j.eR)) f f)/\W.cell? (K j.eR a)=some (A (m a))) (go_keep) (fail)
 all_goals go_wp2
 all_goals go_ret
 all_goals
  rw[<-n,aqS (60-(g:Int)) (by omega)];exact⟨rfl,(apY _ i).drew⟩
def kk (c:Nat) (gt:Int) (a:Nat->Int) (chg:lg) (t:TypeId) (v:Value):ar:=⟨⟨(gt+1,(c:Int)),a c+1,chg⟩,t,v⟩
theorem XC{x:ar}:∀{l:List ar},(∀o∈l,e2 o.op.id x.op.id=true)->lI x l=l++[x]
 |[],_=>rfl
 |o::l,h=>by
  unfold lI;rw[if_pos (h o aqf),XC fun y a=>h y (aqh _ a)];rfl
theorem Md{gt q early}(h:dA i c e d f k a gt q b early j)(ly:0<=gt/\gt<=100000)(hhc:0<=q a/\q a<=1000)(Y:∀o∈b,o.op.id.1<=gt)(hl:b.length<300)(t:TypeId)(v:Value)(u:lg)(z:pX i d (.iface t v) u):
  O 91 #[Z c,.iface t v] i fun l w'=>l=.returned (.agg #[A (gt+1),A a])/\∃w B,dA w' c w d f k a (gt+1) (upd q a (q a+1)) (b++[kk a gt q u t v]) early B/\FZ j B/\c6 e w i w':=by
 obtain⟨C,a6,P,bZ,ee,jC⟩:=h.cells;clear bZ ee jC;have D:=h.F0 h.hc;have qh:(0:Int)<=(a:Int):=aqc _;have kC:(a:Int)<(f:Int):=by have :=h.hc;omega
 have h5:=h.hc;have pJ:=h.lt _ h.b3;have c9:=h.lt _ h.fA;have qm:c≠j.eR:=h.rg;have BL:=h.hN;obtain⟨p,E⟩:∃p,p=gt+1:=⟨_,rfl⟩;obtain⟨s,F⟩:∃s,s=q a+1:=⟨_,rfl⟩;have QH:IntKind.i64.wrap (gt+1)=p:=by rw[E];exact aqS _ (by omega)
 have rW:IntKind.i64.wrap (q a+1)=s:=by rw[F];exact aqS _ (by omega)
 have I:=aa (((apY i.heap.size i).alloc (apX _) (.cells #[A 0,A 0] 36)).alloc (by simp) (.cells #[A p,A a] 36));have Q:=aa (I.o.alloc (by simp;omega) (.cells #[A p,A a,A s,.iface t v] 210)).drew.drew;have QI:=aa (show(((i.alloc (.cells #[A 0,A 0] 36)).alloc (.cells #[A p,A a] 36)).alloc (.cells #[A p,A a,A s,.iface t v] 210)).drew.drew.heap[i.heap.size+2]?=some (.cells #[A p,A a,A s,.iface t v] 210 (0,0)) by
   have :=bI ((i.alloc (.cells #[A 0,A 0] 36)).alloc (.cells #[A p,A a] 36)) (.cells #[A p,A a,A s,.iface t v] 210);rw[show((i.alloc (.cells #[A 0,A 0] 36)).alloc (.cells #[A p,A a] 36)).heap.size=i.heap.size+2 by simp]at this;exact this)
 have R:∀o∈b,e2 o.op.id (kk a gt q u t v).op.id=true:=fun o S=>(qz _ _).2 (.inl (by have :=Y o S;simp only[kk];omega))
 have QJ:=aa (Xz (h.ae Q.o) [kk a gt q u t v] (by
   simp only[List.singleton_append,aqj,aqw];refine⟨fun hm=> ?_,?_⟩
   ·obtain⟨o,S,he⟩:=ap5.1 hm;have :=R o S;rw[he,uw]at this;cases this
   ·have :=h.jB;unfold qA at this;refine aqN.2 (this.imp fun{m n} cF l=> ?_);rw[l,uw]at cF;cases cF) (by simp;omega) (fun x z=>by
   obtain rfl:=ap9.1 z;exact⟨qh,kC⟩) (.slice (some (H (i.heap.size+2))) 1 1) (by
   refine⟨rfl,.inr ⟨i.heap.size+2,1,_,rfl,apZ _,QI.o,apX _,by unfold maxLen;omega,rfl,?_⟩⟩;simp[dH,kk,<-E,<-F]) (fun g L hF=>by
   have :=h.lt g hF;simp[Value.ownBlock]at L;omega) (fun x DK=>by
   obtain rfl:=ap9.1 DK;exact z.ft (fun g L=>Q.o.block g (h.cx g L)) (fun _ y=>y)))
 have U:=aa (And.intro h.lt h.cx);have HIE:=aa (show iZ b [kk a gt q u t v]=b++[kk a gt q u t v] from XC R);have kf:=aa (And.intro E F);have yx:=aa (show nB gt [kk a gt q u t v]=gt+1 from(by show max gt (gt+1)=gt+1;omega));have QK:=aa (show hasAll q [kk a gt q u t v]=upd q a (q a+1) from rfl);clear h z Y R E F ly hhc;have oR:=World.new_ne i (H c) C;have mM:=World.new_ne i (K j.eR a) D;have jJ:i.heap.size+1≠c:=by omega
 have oV:i.heap.size+1≠j.eR:=by omega
 have fR:i.heap.size+2≠c:=by omega
 have BN:i.heap.size+2≠j.eR:=by omega
 go_enter func91,ntmps91;go_wp2_with fail
 go_region_held3 (fun W=>W.cell? (H c)=some (A a)/\W.cell? (K c 1)=some (A gt)) (go_keep) (fail)
 go_wp2_with fail
 replace C:=ae I.o C;replace P:=ae I.o P;replace D:=ae I.o D;clear oR mM jJ oV fR BN;have gK:=aa (show(((i.alloc (.cells #[A 0,A 0] 36)).alloc (.cells #[A p,A a] 36)).alloc (.cells #[A p,A a,A s,.iface t v] 210)).drew.drew.heap[i.heap.size]?=some (.cells #[A 0,A 0] 36 (0,0)) from(hK _ _ (by simp;omega)).trans ((hK _ _ (by simp)).trans (bI i _)));have ff:=aa (show(((i.alloc (.cells #[A 0,A 0] 36)).alloc (.cells #[A p,A a] 36)).alloc (.cells #[A p,A a,A s,.iface t v] 210)).drew.drew.heap[i.heap.size+1]?=some (.cells #[A p,A a] 36 (0,0)) from(hK _ _ (by simp)).trans (by
  have :=bI (i.alloc (.cells #[A 0,A 0] 36)) (.cells #[A p,A a] 36);rw[show(i.alloc (.cells #[A 0,A 0] 36)).heap.size=i.heap.size+1 by simp]at this;exact this))
 go_region_with (first |(go_at_call 142;refine QJ.o.mono ?_;rintro l w4 ⟨⟨r,rfl⟩,w,B,Iw,XD,qC⟩;have o1:=aa (And.intro Iw XD);have M:=aa qC;clear Iw XD qC))
 all_goals(
  have X:∀g,i.heap.size<=g->¬e g:=fun g L hF=>by have :=U.o.1 g hF;omega
  have N:w4.heap[i.heap.size]?=some (.cells #[A 0,A 0] 36 (0,0)):=(M.o.other _ (by simp;omega) (X _ (apX _))).trans gK.o;have aY:w4.heap[i.heap.size+1]?=some (.cells #[A p,A a] 36 (0,0)):=(M.o.other _ (by simp) (X _ (by omega))).trans ff.o;obtain⟨fz,eP⟩:=bl N;obtain⟨Ix,kl⟩:=bl aY;have kR:=cG N;have F4:=aN N;clear N aY X C P D)
 all_goals go_wp2
 all_goals refine bodyPost_ret (v:=.agg #[A p,A a]) (by simp[results,results91,go_sem,fz,eP]) rfl ?_
 all_goals(
  have wY:¬w i.heap.size:=fun hF=>by
   rcases M.o.sub _ hF with h|h
   ·have :=U.o.1 _ h;omega
   simp at h;omega
  have tl:¬d i.heap.size:=fun cD=>by have :=U.o.2 _ cD;omega
  have bw:=o1.o.1;rw[HIE.o,yx.o,QK.o]at bw;exact⟨by rw[kf.o.1],w,B,(bw.set _ wY tl).set _ wY tl,o1.o.2,((M.o.before Q.o).vz (apX _) _).vz (apX _) _⟩)
end
section
open Go.RowKit Tryz
attribute [local go_sem] Oper.semAt_some
theorem agU(f:Nat)(v:Option Nat)(a:List (PId×dU))(w:World)(j:w.cell? (H f)=some (.map v))(l:iG w v a)(m:a.length<=10000)(n:(a.map (·.1)).Nodup):
  O 137 #[.func (.func 164) #[] #[Z f],.func (.func 139) #[] #[]] w fun e h=>∃u b,e=.returned u/\b.Perm (a.map (·.1))/\mX b/\gA w.heap.size h u b/\J w h:=by
 go_enter func137,ntmps137;go_wp2_with fail
 refine(aeV f v a w j l m).mono ?_;rintro e z ⟨u,b,rfl,g,i,o⟩;have p:b.length<=10000:=by have :=g.length_eq;simp_all
 have c:=And.intro g (And.intro i o);go_wp2_with fail
 refine(agE i (g.nodup_iff.2 n) p).mono ?_;rintro e B ⟨rfl,q,r,s,t,x⟩;have d:=And.intro r (And.intro s (And.intro t x));go_wp2;go_ret
 exact⟨u,q,rfl,d.1.trans c.1,d.2.1,d.2.2.1,c.2.2.grown d.2.2.2 c.2.2.size (fun k y=>(ap1 c.2.1 k y).1)⟩
theorem XE(v:Option Nat)(a:List (PId×dU))(w:World)(h:iG w v a)(i:a.length<=10000)(j:(a.map (·.1)).Nodup):
  O 87 #[.map v] w fun e d=>∃u b,e=.returned u/\b.Perm (a.map (·.1))/\mX b/\gA w.heap.size d u b/\J w d:=by
 have c:J w (w.alloc (.cells #[.map v] 159)):=(apY _ w).alloc (apX _) _;go_enter func87,ntmps87;go_wp2_with fail
 refine(callsIn_wide.1 (ad5 Fence.wide 3 trivial rfl v w)).mono ?_;rintro e o ⟨rfl,rfl⟩;go_wp2_with fail
 refine(agU w.heap.size v a (w.alloc (.cells #[.map v] 159)) (by simp) (h.ae c) i j).mono ?_;rintro e p ⟨u,b,rfl,k,l,m,n⟩;have f:=And.intro m n;have g:=And.intro k l;go_wp2;go_ret
 exact⟨u,b,rfl,g.1,g.2,gT f.1 (by simp),c.trans (f.2.mono c.size)⟩
theorem XF{w d r s j k}(h:cz w d r s j k)(b c f g:Int)(i:ByteArray)(t:(eZ j k (b,c) i (f,g)).aC.length<=10000)(v:((eZ j k (b,c) i (f,g)).aC.map (·.1)).Nodup):
  O 92 #[Z d,.agg #[A b,A c,.string i,A f,A g]] w fun e o=>∃u l,e=.returned u/\l.Perm ((eZ j k (b,c) i (f,g)).aC.map (·.1))/\mX l/\gA w.heap.size o u l/\J w o:=by
 have n:=(apY w.heap.size w).alloc (apX _) (.cells #[A b,A c,.string i,A f,A g] 97);have x:=LH (h.ae n) b c f g i;have y:=fun W (z:J w W)=>XE _ _ W ((h.at (b,c) i (f,g)).ae z) t v
 generalize eZ j k (b,c) i (f,g)=a at *;go_enter func92,ntmps92;go_wp2_with fail
 refine x.mono ?_;rintro e I ⟨rfl,B⟩;have m:=n.trans (B.mono n.size);go_wp2_with fail
 refine(y _ m).mono ?_;rintro e L ⟨u,l,rfl,C,D,E,F⟩;have p:=And.intro E F;have q:=And.intro C D;go_wp2;go_ret
 exact⟨u,l,rfl,q.1,q.2,gT p.1 m.size,m.trans (p.2.mono m.size)⟩
theorem agV{a:List (PId×dU)}(e:(a.map (·.1)).Nodup):∀{b:List PId},b.Perm (a.map (·.1))->∃d:List (PId×dU),d.Perm a/\d.map (·.1)=b:=by
 intro b c;refine⟨b.map fun k=>(k,(bC k a).getD (0,(0,0))),?_,by rw[aqO];exact List.map_id _⟩;have f:(a.map (·.1)).map (fun k=>(k,(bC k a).getD (0,(0,0))))=a:=by
  rw[aqO]
  conv=>rhs;rw[<-List.map_id a]
  refine arx fun p c=> ?_
  simp[FQ e c]
 have g:=c.map fun k=>(k,(bC k a).getD (0,(0,0)))
 simp_all
theorem QL{w d aB be p q}(h:cz w d aB be p q)(c f j l:Int)(m:ByteArray)(E:(eZ p q (c,f) m (j,l)).aC.length<=10000)(cO:((eZ p q (c,f) m (j,l)).aC.map (·.1)).Nodup):
  O 49 #[Z d,.agg #[A c,A f,.string m,A j,A l]] w fun e F=>∃u,∃b:List (PId×dU),e=.returned u/\b.Perm (eZ p q (c,f) m (j,l)).aC/\mX (b.map (·.1))/\oT w.heap.size F u (b.map (·.2))/\J w F:=by
 have v:=(apY w.heap.size w).alloc (apX _) (.cells #[A c,A f,.string m,A j,A l] 97);have bY:=LH (h.ae v) c f j l m;have r:=fun W (ab:J w W)=>(h.at (c,f) m (j,l)).ae ab
 generalize eZ p q (c,f) m (j,l)=a at *;go_enter func49,ntmps49;go_wp2_with fail
 refine bY.mono ?_;rintro e w1 ⟨rfl,aq⟩;have x:=v.trans (aq.mono v.size);have hl:=PB (r _ x) (ty:=3);obtain⟨i0,pI,hz0,hz1,hz2⟩:=info_parts (P:=prog) (e:=57) (z:=.agg #[A 0,A 0,A 0]) (size:=3) (bytes:=24) (by rfl);have I:=x.size;have y:=cO;go_wp2_with (first
  |(at_make;refine wpList_make_own _ rfl (.const (A 0)) (.tmp 13) 53 rfl w.heap.size 57 i0 (.agg #[A 0,A 0,A 0]) 3 underlying53 pI hz0 hz1 _ _ _ a.aC.length rfl rfl ?h1 ?h2 ?al ?aL ?_;(case h1=>rfl);(case h2=>rw[hz2];omega);(case al=>unfold maxLen;omega);(case aL=>exact I);intro L fE eD;have jZ:=aa fE;have dN:=aa eD)
  |fail)
 have B:=show J w L from x.grown dN.o I (fun k M=>by cases M)
 refine(XE _ _ L (r _ B) E y).mono ?_;rintro e w3 ⟨u,ss,rfl,vG,has,N,Q⟩;obtain⟨b,hpv,rfl⟩:=agV y vG;have s:=And.intro hpv has;have R:=s.1.length_eq;have S:=B.trans (Q.mono B.size);have js:=show oT w.heap.size w3 (.slice (some (V w1 0)) 0 a.aC.length) [] from c7 jZ.o Q
 obtain⟨kE,kF,rfl,va,sZ,U⟩:=bm N;rw[ap2]at va U;unfold maxLen at sZ;have gr:=N;have pT:=U;have mR:=S.size;rw[ap2];rw[<-R]at E;have QM:=aa R;go_wp2;go_loopw [6,18] (fun apu i wr=>∃k:Nat,k<=b.length/\i=A k/\oT w.heap.size wr apu ((b.take k).map (·.2))/\eE wr (.slice kE b.length kF) (b.map (·.1))/\J w wr) (fun _ i _=>b.length-(intOf i).toNat)
 case atStart=>exact⟨0,apZ _,rfl,js,by have :=gr.ids;rwa [ap2]at this,S⟩
 case round=>
  obtain⟨k,M,rfl,C,X,n⟩:=hrel;by_cases t:k<b.length
  ·obtain⟨g,rfl⟩:=pT k t;obtain⟨Y,a6⟩:=eE.cells X (by simp) k (by simpa using t);simp only[aqH]at Y a6;have c9:g<wr.heap.size:=aqd wr _ Y;have ud:=(apY wr.heap.size wr).alloc (apX _) (.cells #[A b[k].1.1,A b[k].1.2] 36);have dC:=(r _ (n.trans (ud.mono n.size))).look b[k].1.1 b[k].1.2;have cA:=(r _ (n.trans (ud.mono n.size)).drew).look b[k].1.1 b[k].1.2;have kB:bC (b[k].1.1,b[k].1.2) a.aC=some b[k].2:=FQ y (s.1.mem_iff.1 (ap6 t));rw[kB]at dC cA;simp only[aqu,oX]at dC cA;have D:=C;have cW:=X;have sC:=n.size;have gP:=n;go_wp2_with (at_builtin;go_must (refine UY rfl (.tmp 22) (.tmp 26) rfl w.heap.size _ ((b.take k).map (·.2)) rfl ?h1 (wr.heap.size+1) 1 b[k].2 rfl ?h2 ?aL ?b1 ?_;(case h1=>exact(D.alloc _).alloc _);(case h2=>exact UX (by simp) (by simp) (by simp));(case aL=>simp;omega);(case b1=>simp;omega);intro v' w4 wy dw;have fh:=dw;have iY:=wy))
   go_roundw
   case rel=>
    have gp:=oT.below ((D.alloc _).alloc _) ((gP.alloc sC _).alloc (by simp;omega) _) (by simp;omega) fh;refine⟨k+1,by omega,by go_num,by rw[EY _ t];exact iY,?_,gp⟩;refine ca cW (fun g' gj=> ?_);obtain⟨Lg,zi⟩:=bq cW gj;have UF:=aN zi;rw[fh.block g' (by simp;omega) (fun e=>by
     obtain⟨bc,gM⟩:=bq ((D.alloc (.cells #[A b[k].1.1,A b[k].1.2] 36)).alloc (.cells #[A b[k].2.1,A b[k].2.2.1,A b[k].2.2.2] 57)) e.symm;exact absurd (bK (mq (mq zi)) gM) (by decide))]
    rw[hK _ _ (by simp;omega),hK _ _ UF]
   case measure=>simp[intOf];omega
  go_wp2;go_ret
  rw[aql (by omega)]at C;exact⟨_,b,rfl,s.1,s.2,C,n⟩
end
section
open Go.RowKit Tryz
attribute [local go_sem ↓] Go.wp_at_zero Go.wp_at_succ
variable {a:List (PId×ar)}{b f k:World}{c h j:Nat}{d:Nat->Int}{e i:Nat->Prop}
def il (m:List (PId×ar)) (c n:Int):Nat->List ar
 |0=>[]
 |f+1=>match bC (c,n+1) m with
  |none=>[]
  |some o=>o::il m c (n+1) f
theorem run_get(m:List (PId×ar))(c:Int):∀(f:Nat) (n:Int) (j:Nat) (a:j<(il m c n f).length),bC (c,n+1+j) m=some (il m c n f)[j]
 |0,n,j,a=>by simp[il]at a
 |f+1,n,j,a=>by
  cases b:bC (c,n+1) m with
  |none=>simp[il,b]at a
  |some o=>
   match j with
   |0=>simp[il,b]
   |j+1=>
    have :=run_get m c f (n+1) j (by simpa[il,b]using a);simp only[il,b,asq];rw[<-this];congr 2;omega
theorem XG(m:List (PId×ar))(c:Int):∀(f:Nat) (n:Int),(il m c n f).length<f->bC (c,n+1+(il m c n f).length) m=none
 |0,n,h=>by omega
 |f+1,n,h=>by
  cases a:bC (c,n+1) m with
  |none=>simp[il,a]
  |some o=>
   have b:(il m c (n+1) f).length<f:=by simpa[il,a]using h
   have :=XG m c f (n+1) b;simp only[il,a,aqk];rw[<-this];congr 2;omega
theorem QN(m:List (PId×ar))(c:Int):∀(f:Nat) (n:Int),(il m c n f).length<=f
 |0,n=>by simp[il]
 |f+1,n=>by
  cases a:bC (c,n+1) m with
  |none=>simp[il,a]
  |some o=>simpa[il,a]using QN m c f (n+1)
theorem agW(d:∀p∈a,p.1.2<=60){c n:Int}(f:0<=n):(il a c n 61).length<61:=by
 have h:=QN a c 61 n;rcases Nat.lt_or_ge (il a c n 61).length 61 with b|b
 ·exact b
 have e:=run_get a c 61 n 60 (by omega);have :=d _ (fL e);simp only at this;omega
def iL (m:List (PId×ar)) (a:Nat->Int) (c:Nat):List ar:=(List.range c).flatMap fun(i:Nat)=>il m (i:Int) (a i) 61
def qD (m:List (PId×ar)) (has:Nat->Int) (c:Nat):List PId:=(List.range c).flatMap fun(i:Nat)=>(List.range (il m (i:Int) (has i) 61).length).map fun(j:Nat)=>((i:Int),has i+1+(j:Int))
theorem Mh(m:List (PId×ar))(a:Nat->Int)(c:Nat):iL m a (c+1)=iL m a c++il m c (a c) 61:=by
 unfold iL;rw[aqI,aqG];simp
theorem agX(m:List (PId×ar))(a:Nat->Int)(c:Nat):qD m a (c+1)=qD m a c++(List.range (il m (c:Int) (a c) 61).length).map fun(j:Nat)=>((c:Int),a c+1+(j:Int)):=by
 unfold qD;rw[aqI,aqG];simp
theorem XH(m:List (PId×ar))(a:Nat->Int):∀c,(iL m a c).length<=c*61
 |0=>by simp[iL]
 |c+1=>by
  have b:=XH m a c;have d:=QN m (c:Int) 61 (a c);rw[Mh,ap4,aqZ];omega
theorem agY{x:PId}(h:x∈qD a d c):x.1<c:=by
 unfold qD at h;obtain⟨i,b,e⟩:=aqq.1 h;obtain⟨j,_,rfl⟩:=ap5.1 e;have :=aqX.1 b;simp only;omega
structure vH (m:List (PId×ar)) (gone:List PId) (m':List (PId×ar)):Prop where
 jl:(m'.map (·.1)).Nodup
 sub:∀p∈m',p∈m
 look:∀x,x∉gone->bC x m'=bC x m
 gone:∀x∈gone,bC x m'=none
theorem QO {κ ν:Type} [DecidableEq κ] (x:κ):∀m:List (κ×ν),(pG x m).Sublist m
 |[]=>.slnil
 |p::m=>by
  unfold pG;split
  ·exact List.sublist_cons_self _ _
  exact(QO x m).cons_cons p
theorem Mi {κ ν:Type} [DecidableEq κ] (x:κ) (p:κ×ν) (m:List (κ×ν)):bC x (p::m)=if x=p.1 then some p.2 else bC x m:=by
 unfold bC;rw[arK];by_cases h:x=p.1<;>simp[h]
theorem QP {κ ν:Type} [DecidableEq κ] {x y:κ} (h:x≠y):∀m:List (κ×ν),bC x (pG y m)=bC x m
 |[]=>rfl
 |p::m=>by
  unfold pG;split
  ·rename_i e
   rw[Mi,if_neg (fun a=>h (a.trans e.symm))]
  rw[Mi,Mi,QP h m]
theorem XI {κ ν:Type} [DecidableEq κ] {x:κ}:∀{m:List (κ×ν)},(m.map (·.1)).Nodup->bC x (pG x m)=none
 |[],_=>rfl
 |p::m,a=>by
  simp only[aqj,aqw]at a;unfold pG;split
  ·rename_i e
   exact af1 (e▸a.1)
  rename_i e
  rw[Mi,if_neg e];exact XI a.2
theorem vH.cut{m c}(h:vH m c a)(x:PId):vH m (c++[x]) (pG x a):=by
 have d:=QO x a;refine⟨(d.map _).nodup h.jl,fun p f=>h.sub p (d.subset f),fun y b=> ?_,fun y b=> ?_⟩
 ·have g:y≠x:=fun e=>b (by simp[e])
  rw[QP g,h.look y fun i=>b (aq3 _ i)]
 by_cases e:y=x
 ·subst e;exact XI h.jl
 rw[QP e];exact h.gone y (by simpa[e]using b)
theorem dA.XJ{u gt w early q}(g:dA b h i e j u c gt d w early q)(o:aO (fun l=>l=q.ik) b k)(F:∃y z,isMap c0 QD k q.ik a y z)(I:∀p∈a,pX b e (.iface p.2.t p.2.v) p.2.op.chg):dA k h i e j u c gt d w a q:=by
 have n:∀l,i l->l≠q.ik->k.heap[l]?=b.heap[l]?:=fun l hF L=>o.other l (g.lt l hF) L
 have B:∀l,e l->k.heap[l]?=b.heap[l]?:=fun l C=>o.other l (g.cx l C) fun m=>g.eC l C (m▸g.pf)
 obtain⟨y,z,M⟩:=g.emap;obtain⟨N,P,Q⟩:=g.DV;have r:∀(l:Nat) (c:Array Value) (t:TypeId) (f:Nat×Nat),b.heap[l]?=some (.cells c t f)->l≠q.ik:=fun l c t f n m=>by
  rw[m,M.blk]at n;cases n
 refine⟨by rw[n _ g.b3 (r _ _ _ _ g.blk)];exact g.blk,by rw[n _ g.fA (r _ _ _ _ g.heard)];exact g.heard,g.jT.gw o.size (fun l hF=>n l (g.q3 l hF) (fun m=>g.BJ (m▸hF))) B,g.cnt,g.jB,F,fun p s=>(I p s).ft B (fun _ x=>x),⟨N,P,Q.gJ (n _ g.vF (aqa g.DX))⟩,fun p s=> ?_,g.hc,g.hN,g.b3,g.fA,g.pf,g.vF,g.q3,g.pg,g.BI,g.BJ,g.DW,g.DX,fun l hF=>ap3 (g.lt l hF) o.size,g.eC⟩;obtain⟨⟨R,D⟩,S,E,U⟩:=g.zO p s;exact⟨⟨R,by rw[n _ E (r _ _ _ _ D)];exact D⟩,S,E,U⟩
theorem aO.over(h:aO e b f)(a:aO (fun a=>b.heap.size<=a) f k):aO e b k:=
 ⟨a.os.trans h.os,a.tape.trans h.tape,a.output.trans h.output,ap0 h.size a.size,fun i c d=>(a.other i (ap3 c h.size) (by omega)).trans (h.other i c d)⟩
theorem aO.agZ{S}{c:Option Nat}(h:aO S b f)(d:f.grownBy k c)(e:∀a,c=some a->b.heap.size<=a):aO S b k:=
 h.over (aO.r2 d e)
def XK:Value->Nat
 |.slice _ n _=>n
 |_=>0
theorem XL(W:World):(zeroValue 210).run prog W=.ok (.agg #[A 0,A 0,A 0,.nilIface]) W:=by kernel_rfl
theorem ag0{F sp c gt ops early q}(h:dA b F e i j sp c gt d ops early q)(cO:(early.map (·.1)).Nodup)(sd:∀p∈early,p.1.2<=60)(iJ:∀l,l<j->0<=d l/\d l<=1000):
  O 310 #[Z F] b fun m w'=>∃v iM,m=.returned v/\fN b.heap.size w' v (iL early d j)/\dA w' F e i j sp c gt d ops iM q/\vH early (qD early d j) iM/\aO (fun k=>k=q.ik) b w':=by
 have BL:=h.hN;obtain⟨bf,a6,bc,bZ,ee,jC⟩:=h.cells;clear bf a6 bZ ee jC;have I:=aa h;clear h;have hs:=aa (And.intro cO (And.intro sd iJ));clear cO sd iJ;go_enter func310,ntmps310;go_wp2_with fail
 go_loopw [3,14] (fun v l wr=>∃k iM,k<=j/\l=A (k:Nat)/\fN b.heap.size wr v (iL early d k)/\dA wr F e i j sp c gt d ops iM q/\vH early (qD early d k) iM/\aO (fun k=>k=q.ik) b wr) (fun _ l _=>j-(intOf l).toNat)
 case atStart=>exact⟨0,early,apZ _,rfl,(show fN b.heap.size b (.slice none 0 0) [] from aqe _ _ _ _),I.o,⟨hs.o.1,fun _ x=>x,fun _ _=>rfl,fun x C=>by cases C⟩,aO.cJ (apY _ _)⟩
 case round=>
  obtain⟨k,Mj,Q,rfl,bu,bA,fF,b5⟩:=hrel;by_cases aE:k<j
  ·have sc:=bA.F0 aE;obtain⟨Mk,DZ⟩:=hs.o.2.2 k aE;have jR:(0:Int)<=(k:Int):=aqc _;have df:(k:Int)<(j:Int):=by omega
   have QH:IntKind.i64.wrap (d k+1)=d k+1:=aqS _ (by omega);have L:=aa (And.intro bu (And.intro bA (And.intro fF b5)));clear bu bA fF b5;obtain⟨M,uA⟩:∃M,M=wr:=⟨_,rfl⟩;subst uA;go_wp2_with fail
   have fl:=agW hs.o.2.1 (c:=(k:Int)) Mk;obtain⟨run,QQ⟩:∃run,run=il early (k:Int) (d k) 61:=⟨_,rfl⟩;rw[<-QQ]at fl;have R:=aa QQ;have da:=aa (XH early d k);have gd:(iL early d k).length<=200:=by have :=da.o;omega
   obtain⟨r,nZ⟩:∃r,r=iL early d k:=⟨_,rfl⟩;obtain⟨cn,mz⟩:∃cn,cn=qD early d k:=⟨_,rfl⟩;rw[<-nZ]at gd L;rw[<-mz]at L;have QR:=aa (And.intro nZ (And.intro mz fun x (C:x∈cn)=>agY (mz▸C)));clear QQ nZ mz sc;have a7:=aa (show J M (M.alloc (.cells #[A k,A (d k+1)] 371)) from(apY _ M).alloc (apX _) _);go_loopw [3,6] (fun v n l0=>∃a U B,n=Z B/\b.heap.size<=B/\l0.heap[B]?=some (.cells #[A k,A (d k+1+(a:Nat))] 371 (0,0))/\a<=run.length/\fN b.heap.size l0 v (r++run.take a)/\dA l0 F e i j sp c gt d ops U q/\vH early (cn++(List.range a).map fun(l:Nat)=>((k:Int),d k+1+(l:Int))) U/\aO (fun k=>k=q.ik) b l0) (fun v _ _=>1000-XK v)
   case atStart=>
    refine⟨0,Mj,M.heap.size,rfl,L.o.2.2.2.size,?_,apZ _,?_,L.o.2.1.ae a7.o,?_,L.o.2.2.2.trans (aO.cJ a7.o)⟩
    ·have :=bI M (.cells #[A k,A (d k+1)] 371);simpa using this
    ·rw[List.take_zero,aqB];exact c7 L.o.1 a7.o
    rw[List.range_zero,aqY,aqB];exact L.o.2.2.1
   case round=>
    obtain⟨a,U,B,rfl,hBx,X,iu,fE,Y,QS,uo⟩:=hrel;have s:=aa (And.intro fE (And.intro Y (And.intro QS uo)));obtain⟨d0,d1,d2,d3,d4,d5⟩:=Y.cells;clear d0 d1 d2 d3 d5;obtain⟨cy,bx⟩:=bl X;obtain⟨es,aT,gD⟩:=Y.emap;have uB:=QS.look ((k:Int),d k+1+(a:Int)) (fun C=>by
     rcases ap7.1 C with C|C
     ·have :=QR.o.2.2 _ C;simp only at this;omega
     obtain⟨l,hi,he⟩:=ap5.1 C;have :=aqX.1 hi;injection he with _ he;omega)
    have eX:=aN X;have tj:wr.heap.size≠q.ik:=by have :=Y.lt _ Y.pf;omega
    have ag1:B≠q.ik:=fun m=>by have :=I.o.lt _ I.o.pf;omega
    obtain⟨dr,dh,rfl,tW,vE,uy⟩:=bm fE;clear uy;unfold maxLen at vE;have XB:=uo.size;clear fE Y QS uo;by_cases au:a<run.length
    ·have D:=run_get early (k:Int) 61 (d k) a (by rw[<-R.o];exact au);obtain⟨o,af⟩:∃o,o=run[a]:=⟨_,rfl⟩;have gj:bC ((k:Int),d k+1+(a:Int)) U=some o:=by
      rw[uB,D,af];congr 1;exact List.getElem_of_eq R.o.symm _
     have cR:=aa (show r++run.take (a+1)=(r++run.take a)++[o] by rw[aqp au,<-af,aqs]);clear af D uB;have r0:(r++run.take a).length<=300:=by rw[ap4,aqg];omega
     have o5:=aa (show(r++run.take a).length=r.length+a by rw[ap4,aqg];omega);obtain⟨w,vI⟩:∃w,w=r++run.take a:=⟨_,rfl⟩;rw[<-vI]at cR s r0 tW o5⊢;clear vI;have u:∀W,J wr W->(Instr.lookup 106 (.map (some q.ik)) (.agg #[A k,A (d k+1+(a:Int))]) true).run prog W=.ok (.tuple #[.agg #[A o.op.id.1,A o.op.id.2,A o.op.nth,.iface o.t o.v],.bool true]) W:=fun W ab=>by
      have :=yZ Mc (gD.ae ab) underlying106 (XL W) ((k:Int),d k+1+(a:Int)) true;rw[gj]at this;exact this
     have dC:=u wr (apY _ _);have cA:=u wr.drew (apY _ _).drew;have zq:=u _ ((apY wr.heap.size wr).alloc (apX _) (.cells #[A 0,A 0,A 0,.nilIface] 210));have F6:=u _ ((apY wr.heap.size wr).alloc (apX _) (.cells #[A 0,A 0,A 0,.nilIface] 210)).drew;have sY:=aa u;clear u;have D1:=aa gD;clear gD;have ow:=aa X;clear X;have pJ:=aqd wr _ d4;simp only at pJ;have fR:=World.new_ne wr (K F 4) d4;have wS:=World.new_ne wr (H B) cy;have z:=aa (((apY wr.heap.size wr).alloc (apX _) (.cells #[A o.op.id.1,A o.op.id.2,A o.op.nth,.iface o.t o.v] 210)).drew.drew);obtain⟨Bk,QT,zz⟩:=TX Mc (D1.o.ae z.o) underlying106 (ty:=0) (t2:=371) ((k:Int),d k+1+(a:Int));simp only[c0]at QT;have E:=aa (show aO (fun k=>k=q.ik) _ (putObj (wr.alloc (.cells #[A o.op.id.1,A o.op.id.2,A o.op.nth,.iface o.t o.v] 210)).drew.drew q.ik (.map Bk aT)) from aO.put _ rfl);have Dz:=aa zz;clear zz;obtain⟨y,QU⟩:∃y,putObj (wr.alloc (.cells #[A o.op.id.1,A o.op.id.2,A o.op.nth,.iface o.t o.v] 210)).drew.drew q.ik (.map Bk aT)=y:=⟨_,rfl⟩;have XM:y.heap.size=wr.heap.size+1:=by rw[<-QU];simp[putObj]
     rw[QU]at QT Dz E;have HZ9:=aa XM;clear QU XM;obtain⟨e7,gm,k3,np⟩:=ym wr (A o.op.id.1) (A o.op.id.2) (A o.op.nth) (.iface o.t o.v) 210;replace e7:=E.o.cell tj e7;replace gm:=E.o.cell tj gm;replace k3:=E.o.cell tj k3;replace np:=E.o.cell tj np;have XN:=aa ((E.o.other B (ap3 eX z.o.size) ag1).trans (bj ow.o z.o));have XO:=ae z.o d4;have b0':=ae z.o cy;have Du:=ae z.o bx;have XP:=aa (show fN b.heap.size y (.slice dr w.length dh) w from ca (c7 s.o.1 z.o) fun g D=>E.o.other g (by obtain⟨cur,hc⟩:=bq (c7 s.o.1 z.o) D;exact aN hc) (fun m=>by
      have h1:=(ap1 s.o.1 _ D).1;have :=I.o.lt _ I.o.pf;omega))
     have bL:=aa ((apY y.heap.size y).alloc (apX _) (.cells #[A o.op.id.1,A o.op.id.2,A o.op.nth,.iface o.t o.v] 210));have Iy:=aa (PW (x:=o) (ym y (A o.op.id.1) (A o.op.id.2) (A o.op.nth) (.iface o.t o.v) 210).1 (ym y (A o.op.id.1) (A o.op.id.2) (A o.op.nth) (.iface o.t o.v) 210).2.1 (ym y (A o.op.id.1) (A o.op.id.2) (A o.op.nth) (.iface o.t o.v) 210).2.2.1 (ym y (A o.op.id.1) (A o.op.id.2) (A o.op.nth) (.iface o.t o.v) 210).2.2.2);have QV:=aa (show(Value.slice dr w.length dh).ownBlock≠some B from fun m=>by
      obtain⟨cur,hc⟩:=bq XP.o m;exact absurd (bK hc XN.o) (by decide))
     have F7:=aa (bj XN.o bL.o);have nT:=aa (fun k (Q:(Value.slice dr w.length dh).ownBlock=some k)=>(ap1 s.o.1 k Q).1);go_wp2_with fail
     go_region
     all_goals go_wp2_with fail
     all_goals clear dC cA zq F6 d4 cy bx
     all_goals go_region
     all_goals clear XO b0' Du QT
     all_goals go_wp2_with (first
      |(at_builtin;refine zB dH 4 40 202 210 (.agg #[A 0,A 0,A 0,.nilIface]) (by kernel_rfl) underlying202 rfl (by omega) (fun _=>rfl) rfl (.tmp 43) (.tmp 45) rfl b.heap.size (.slice dr w.length dh) w rfl (c7 XP.o bL.o) y.heap.size 1 o rfl Iy.o (Bp o) (by omega) (by unfold maxLen;omega) (by have :=HZ9.o;simp;omega) ?_;intro v' N BO zR Iz;have D2:=aa BO;have F8:=aa zR;obtain⟨jx,q1⟩:=bl (((aO.r2 (S:=fun k=>(Value.slice dr w.length dh).ownBlock=some k) zR (fun k Q=>Q)).other B (aN F7.o) QV.o).trans F7.o);clear BO zR Iz e7 gm k3 np)
      |fail)
     all_goals go_roundw
     case rel|rel=>
      have XQ:aO (fun k=>k=q.ik) b N:=(s.o.2.2.2.trans ((aO.cJ z.o).trans (E.o.trans (aO.cJ bL.o)))).agZ F8.o nT.o;have hR9:dA y F e i j sp c gt d ops (pG ((k:Int),d k+1+(a:Int)) U) q:=(s.o.2.1.ae z.o).XJ E.o ⟨_,_,Dz.o⟩ fun p ah=>(s.o.2.1.ae z.o).BH p ((QO _ _).subset ah)
      have QW:=hR9.ae bL.o;have QX:=aO.r2 (S:=fun k=>(Value.slice dr w.length dh).ownBlock=some k) F8.o (fun k Q=>Q);have ag2:=QW.gw QX.size (fun k hF=>QX.other k (QW.lt k hF) fun m=>by have :=nT.o k m;have :=I.o.lt k hF;omega) (fun k hF=>QX.other k (QW.cx k hF) fun m=>by have :=nT.o k m;have :=I.o.cx k hF;omega);have P:J N (N.alloc (.cells #[A k,A (d k+1+(a:Int)+1)] 371)):=(apY _ N).alloc (apX _) _;refine⟨a+1,_,N.heap.size,rfl,XQ.size,?_,by omega,?_,ag2.ae P,?_,XQ.trans (aO.cJ P)⟩
      ·have :=bI N (.cells #[A k,A (d k+1+(a:Int)+1)] 371);rw[this,show d k+1+(a:Int)+1=d k+1+((a+1:Nat):Int) by omega]
      ·rw[cR.o];refine c7 ?_ P;have :=D2.o;show N.ownsRow b.heap.size 210 4 v' (w++[o]).length ((w++[o]).flatMap dH);rwa [ap4]
      have :=s.o.2.2.1.cut ((k:Int),d k+1+(a:Int));rwa [aqs,<-List.map_singleton (f:=fun(l:Nat)=>((k:Int),d k+1+(l:Int))),<-aqi,<-aqI]at this
     case measure|measure=>
      obtain⟨ky,b7,rfl,_,_,_⟩:=bm D2.o;simp only[XK];omega
    have rj:a=run.length:=by omega
    have D:=XG early (k:Int) 61 (d k) (by rw[<-R.o];exact fl);rw[<-R.o,<-rj]at D;rw[D]at uB;have u:∀W,J wr W->(Instr.lookup 106 (.map (some q.ik)) (.agg #[A k,A (d k+1+(a:Int))]) true).run prog W=.ok (.tuple #[.agg #[A 0,A 0,A 0,.nilIface],.bool false]) W:=fun W ab=>by
     have :=yZ Mc (gD.ae ab) underlying106 (XL W) ((k:Int),d k+1+(a:Int)) true;rw[uB]at this;exact this
    have dC:=u wr (apY _ _);have cA:=u wr.drew (apY _ _).drew;have zq:=u _ ((apY wr.heap.size wr).alloc (apX _) (.cells #[A 0,A 0,A 0,.nilIface] 210));have F6:=u _ ((apY wr.heap.size wr).alloc (apX _) (.cells #[A 0,A 0,A 0,.nilIface] 210)).drew;have sY:=aa u;clear u uB;have D1:=aa gD;clear gD;have ow:=aa X;clear X;have pJ:=aqd wr _ d4;simp only at pJ;have fR:=World.new_ne wr (K F 4) d4;have wS:=World.new_ne wr (H B) cy;have HRT:=aa (show r++run.take a=iL early d (k+1) by rw[Mh,<-QR.o.1,<-R.o,rj,ari]);have HGT:=aa (show cn++(List.range a).map (fun(l:Nat)=>((k:Int),d k+1+(l:Int)))=qD early d (k+1) by rw[agX,<-QR.o.2.1,<-R.o,rj]);clear rj au D;go_wp2_with fail
    go_region
    all_goals go_wp2_with fail
    all_goals
     have P:J wr (wr.alloc (.cells #[A 0,A 0,A 0,.nilIface] 210)).drew:=((apY wr.heap.size wr).alloc (apX _) _).drew;refine⟨⟨k+1,U,by omega,by go_num,?_,s.o.2.1.ae P,?_,s.o.2.2.2.trans (aO.cJ P)⟩,by simp[intOf];omega⟩
     ·have h1:=c7 s.o.1 P;rw[<-HRT.o];rw[show(r++run.take a).length=r.length+a by rw[ap4,aqg];omega]at h1;show World.ownsRow _ _ _ _ _ (r++run.take a).length _;rw[show(r++run.take a).length=r.length+a by rw[ap4,aqg];omega];exact h1
     rw[<-HGT.o];exact s.o.2.2.1
  have ho:k=j:=by omega
  have aP:=aa (And.intro bu (And.intro bA (And.intro fF (And.intro b5 ho))));clear bu bA fF b5 ho;go_wp2_with fail
  go_ret
  obtain⟨h1,h2,al,aL,rfl⟩:=aP.o;exact⟨_,Mj,rfl,h1,h2,al,aL⟩
end
section
open Go.RowKit Go.Sort Go.Shelf Tryz
attribute [local go_sem ↓] Go.wp_at_zero Go.wp_at_succ
def en (x:ar):PId:=(x.op.id.2,x.op.nth)
def QY (x y:ar):Int:=nV (en x) (en y)
theorem ag3:SWO (ltOf QY):=⟨fun x=>L9.1 (en x),fun x y z=>L9.2 (en x) (en y) (en z),fun x y z=>L9.3 (en x) (en y) (en z)⟩
theorem ag4(x y:ar)(w:World):
  O 282 #[.agg #[A x.op.id.1,A x.op.id.2,A x.op.nth,.iface x.t x.v],.agg #[A y.op.id.1,A y.op.id.2,A y.op.nth,.iface y.t y.v]] w fun e c=>e=.returned (A (QY x y))/\∃q d,c=grow (w.drewN q) d:=by
 go_enter func282,ntmps282;go_wp2_with fail
 go_region_held3 (fun W=>W.cell? (V w 1)=some (A x.op.id.2)/\W.cell? (V w 2)=some (A x.op.nth)/\W.cell? (K (w.heap.size+1) 1)=some (A y.op.id.2)/\W.cell? (K (w.heap.size+1) 2)=some (A y.op.nth)) (go_keep)
  (first
   |(go_at_call 166;refine(PT _ _ _).mono ?_;rintro e c ⟨rfl,rfl⟩)
   |(go_at_call 165;refine(PU (g:=w.heap.size+2) (a:=vx x.op.id.2 y.op.id.2) (b:=vx x.op.nth y.op.nth) ?_ ?_).mono ?_;(exact(FL _ _ _ _ _ _).1);(exact(FL _ _ _ _ _ _).2);rintro e c ⟨rfl,rfl⟩))
 all_goals go_wp2
 all_goals go_ret
 all_goals exact⟨rfl,1,_,Xe _ _ _ _⟩
theorem ag5(args:Array Value)(w:World):(callFunc 282 args).run prog w=.ok (.enter 282 args) w:=
 enters_of func282 (by kernel_rfl) rfl args w
def yy (l:List ar):Prop:=l.Pairwise fun x y=>e2 (en x) (en y)=true
theorem ag6{l:List ar}(e:(l.map en).Nodup)(f:∀i j (a:i<l.length) (b:j<l.length),i<j->e2 (en l[j]) (en l[i])=false):yy l:=by
 unfold yy;rw[aqT];intro i j a b c;cases h:e2 (en l[i]) (en l[j]) with
 |true=>rfl
 |false=>
  exfalso;have :=Qu h (f i j a b c);have d:=aqT.1 e i j (by simpa using a) (by simpa using b) c;simp only[aqH]at d;exact d this
theorem ag7(a:Option Addr)(c:Nat)(f:Value)(w:World):O 286 #[.slice a 0 c,A 0,A 0,f] w fun e b=>e=.returned (.tuple #[])/\J w b:=by
 go_enter func286,ntmps286;go_wp2;refine wp_loop_rounds 1 ?_;rw[rounds_succ];go_wp2;go_end0
 exact⟨rfl,apY _ _⟩
theorem ag8(a:Option Addr)(c:Nat)(b:Int)(f:Value)(w:World):O 285 #[.slice a 0 c,A 0,A 0,A b,f] w fun e d=>e=.returned (.tuple #[])/\J w d:=by
 have g:=aa (ag7 a c f w);go_enter func285,ntmps285;go_wp2_with fail
 refine wp_loop_rounds 1 ?_;rw[rounds_succ];go_wp2_with fail
 refine g.o.mono ?_;rintro e i ⟨rfl,h⟩;go_wp2;exact bodyPost_ret (v:=.tuple #[]) (by simp[results,results285,go_sem]) rfl ⟨rfl,h⟩
theorem ag9(a:Option Addr)(c:Nat)(f:Value)(w:World):O 281 #[.slice a 0 c,f] w fun e d=>e=.returned (.tuple #[])/\J w d:=by
 have g:=aa (VR 0 (by omega) w);have h:=aa (fun b=>ag8 a c b f w);go_enter func281,ntmps281;go_wp2_with fail
 refine g.o.mono ?_;rintro e j ⟨⟨b,rfl⟩,rfl⟩;go_wp2_with fail
 refine(h.o b).mono ?_;rintro e k ⟨rfl,i⟩;go_wp2;go_end0
 exact⟨rfl,i⟩
theorem aha{B w u l}(h:fN B w u l)(C:(l.map en).Nodup)(Y:l.length<=10000):
  O 281 #[u,.func (.func 282) #[] #[]] w fun e o=>e=.returned (.tuple #[])/\∃p,p.Perm l/\yy p/\fN B o u p/\w.grownBy o u.ownBlock:=by
 by_cases D:l.length=0
 ·have :l=[]:=arb D;subst this;obtain⟨a,c,rfl,_,_,_⟩:=bm h;refine(ag9 a c _ w).mono ?_;rintro e o ⟨rfl,d⟩;exact⟨rfl,[],.refl _,List.Pairwise.nil,c7 h d,⟨d.os,d.tape,d.output,d.size,fun k E _=>d.block k E⟩⟩
 haveI:Inhabited ar:=⟨⟨⟨(0,0),0,.inl false⟩,0,.nilIface⟩⟩
 obtain⟨a,c,rfl,jq,cZ,F⟩:=bm h;obtain⟨g,rfl⟩:=F 0 (by omega);obtain⟨I,L⟩:=Xi dH 4 (fun _=>rfl) h;have q:=AnyQ.slices_SortFunc sortOps 4 isAgg210 sizeOf210 dH (fun _=>rfl) (fun x v r=>by simp[dH]at r;rcases r with rfl|rfl|rfl|rfl<;>rfl) QY ag3 282 #[] g 0 c l.toArray w ag5 (fun m s dk _ x y=>ag4 x y _) I L (by simp;omega);change O 281 _ _ _ at q;simp only[arp]at q;refine q.mono ?_;rintro e o ⟨rfl,b,n,s,M,N,rfl⟩;obtain⟨f,_,P⟩:=M;simp at f;obtain⟨Q,R⟩:=Xh dH 4 (fun _=>rfl) h n b f s;have t:b.toList.Perm l:=by
  have S:(b.extract 0 l.length).toList=b.toList:=by rw[<-f];simp
  have U:(l.toArray.extract 0 l.length).toList=l:=by simp
  rwa [S,U]at P
 refine⟨rfl,b.toList,t,ag6 ((t.map en).nodup_iff.2 C) (fun i j W z X=> ?_),?_,R⟩
 ·have :=N i j (apZ _) X (by simpa[f]using z);rw[getElem!_pos b j (by simpa using z),getElem!_pos b i (by simpa using W)]at this;simp only[Array.getElem_toList];exact this
 unfold fN;rw[show b.toList.length=l.length by simp[f]];exact Q
end
end Go.Proofs.YtnkpogjiiohapaaGreatDoor
