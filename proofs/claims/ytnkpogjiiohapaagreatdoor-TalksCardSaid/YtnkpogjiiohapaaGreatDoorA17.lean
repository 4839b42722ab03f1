/- Our own text. -/
import Derived.Test.YtnkpogjiiohapaaGreatDoorA16
import Derived.Test.YtnkpogjiiohapaaGreatDoorA01
set_option linter.unusedSimpArgs false
set_option linter.unusedVariables false
set_option maxRecDepth 1000000
set_option maxHeartbeats 4000000
namespace Go.Proofs.YtnkpogjiiohapaaGreatDoor
section
open Go.RowKit Tryz
variable {a e f h l q y:Nat}{b:List av}{d:List lh}{i n:Nat->Prop}{j k w:Value}{m:cN}{r s:PId}{u v:World}
def lH (x:av):List av->List av
 |[]=>[x]
 |o::l=>if eK o.op.id x.op.id=true then o::lH x l else x::o::l
def rX (x:av):List av->Nat
 |[]=>0
 |o::l=>if eK o.op.id x.op.id=true then rX x l+1 else 0
def pH (l:List av):Prop:=l.Pairwise fun a b=>eK a.op.id b.op.id=true
theorem PL(x:av):∀l:List av,lH x l=l.take (rX x l)++x::l.drop (rX x l)
 |[]=>rfl
 |o::l=>by
  unfold lH rX;split
  ·rw[List.take_succ_cons,List.drop_succ_cons,apC,<-PL x l]
  ·rfl
theorem PM(x:av):∀l:List av,rX x l<=l.length
 |[]=>aoP _
 |o::l=>by
  unfold rX;split
  ·simpa using PM x l
  ·exact aoR _
theorem WG(x:av):∀(l:List av) (i:Nat) (a:i<l.length),i<rX x l->eK l[i].op.id x.op.id=true
 |o::l,0,_,h=>by
  unfold rX at h;split at h
  ·rename_i e;exact e
  ·omega
 |o::l,i+1,a,h=>by
  unfold rX at h;split at h
  ·exact WG x l i (by simpa using a) (by omega)
  ·omega
theorem A7{c:PId}(a:eK r s=true)(b:eK s c=true):eK r c=true:=by
 have x:=(q3 r s).1 a;have y:=(q3 s c).1 b;exact(q3 r c).2 (by omega)
theorem uc(a:PId):eK a a=false:=(zp a a).2 (by omega)
theorem WH(h:r≠s)(a:¬eK r s=true):eK s r=true:=by
 cases b:eK s r with
 |true=>rfl
 |false=>exact absurd (PK (by simpa using a) b) h
theorem WI(x:av):∀(l:List av),pH l->(∀o∈l,o.op.id≠x.op.id)->∀(i:Nat) (a:i<l.length),rX x l<=i->eK x.op.id l[i].op.id=true
 |o::l,f,b,i,a,h=>by
  unfold rX at h;have c:=apP.1 f;split at h
  ·obtain⟨j,rfl⟩:∃j,i=j+1:=⟨i-1,by omega⟩
   exact WI x l c.2 (fun o g=>b o (apa _ g)) j (by simpa using a) (by omega)
  ·rename_i e
   have d:=WH (b o ao6) e
   match i,a with
   |0,_=>exact d
   |i+1,a=>exact A7 d (c.1 _ (aoY _))
theorem Fk(x:av):∀l:List av,(lH x l).Perm (x::l)
 |[]=>.refl _
 |o::l=>by
  unfold lH;split
  ·exact((Fk x l).cons o).trans (.swap _ _ _)
  ·exact .refl _
theorem WJ(x:av):∀(l:List av),pH l->(∀o∈l,o.op.id≠x.op.id)->pH (lH x l)
 |[],_,_=>aqZ _ _
 |o::l,d,f=>by
  have c:=apP.1 d;unfold lH;split
  ·rename_i e
   refine apP.2 ⟨fun b a=> ?_,WJ x l c.2 fun o h=>f o (apa _ h)⟩;rcases ao3.1 ((Fk x l).mem_iff.1 a) with rfl|a
   ·exact e
   ·exact c.1 b a
  ·rename_i e
   have g:=WH (f o ao6) e;refine apP.2 ⟨fun b a=> ?_,d⟩;rcases ao3.1 a with rfl|a
   ·exact g
   ·exact A7 g (c.1 b a)
theorem WK{x:av}(h:a<=rX x b):(lH x b).take a=b.take a:=by
 rw[PL,ap3 (by rw[ao7];have :=PM x b;omega),aqs,show min a (rX x b)=a by omega]
theorem WL(x:av)(l:List av):(lH x l).length=l.length+1:=by have :=(Fk x l).length_eq;simpa using this
theorem aga(h:eK r s=true):nQ r s<0:=by simpa[eK]using h
theorem agb(h:eK r s=true):0<nQ s r:=by
 have :=(q3 r s).1 h;unfold nQ G9 uU;rcases this with a|⟨a,b⟩
 ·simp[show ¬s.1<r.1 by omega,a]
 ·simp[a,show ¬s.2<r.2 by omega,b]
structure qk (w:World) (ab sp su:Nat) (dm cb:Value) (ops:List av) (e:Nat) (rs:List lh) (d aA be:Nat) (F I:Nat->Prop) (D0:nt) (D:cN):Prop where
 blk:nr w ab sp su dm cb d
 row:fH 0 w dm ops
 chg:∀o∈ops,pF w I (.iface o.t o.v) o.op.chg
 mem:tP 0 w cb (rs.map (·.d))
 rT:1<=sp
 rU:sp<=50
 rV:su<sp
 le:e<=ops.length
 len:ops.length<=300
 vb:∀r∈rs,cu w r.d r.b r.e r.D.1 r.D.2/\fR r.b r.e (oo F rs aA be) r.D.1 r.D.2/\fG r.D
 mo:∀j (ar:j<rs.length),j*sp-su<=e->A3 D0 ((ops.map (·.op)).take (j*sp-su)) rs[j].D
 q:cu w d aA be D.1 D.2
 own:fR aA be (oo F rs aA be) D.1 D.2
 ji:fG D
 maps:(nu rs aA be).Nodup
 pG:F ab
 ps:∀k,dm.ownBlock=some k->F k
 qX:∀k,cb.ownBlock=some k->F k
 cd:∀r∈rs,F r.d/\F r.b/\F r.e
 fd:F d
 oX:F aA
 oY:F be
 lt:∀k,F k->k<w.heap.size
 eT:∀k,I k->¬F k
 cJ:∀k,I k->k<w.heap.size
theorem kU.x{w g e m F D0 D}(c:kU w a f h k g b e d l y m F i D0 D):qk w a f h k g b e d l y m F i D0 D:=
 ⟨c.blk,c.row,c.chg,c.mem,c.rT,c.rU,c.rV,c.le,c.len,c.vb,fun j n _=>c.mo j n,c.q,c.own,c.ji,c.maps,c.pG,c.ps,c.qX,c.cd,c.fd,c.oX,c.oY,c.lt,c.eT,c.cJ⟩
theorem qk.g{w sp su o e D0}(c:qk w a sp su k o b e d f h l i n D0 m)(r:∀j,j<d.length->j*sp-su<=e)(s:A3 D0 ((b.map (·.op)).take e) m):kU w a sp su k o b e d f h l i n D0 m:=
 ⟨c.blk,c.row,c.chg,c.mem,c.rT,c.rU,c.rV,c.le,c.len,c.vb,fun j p=>c.mo j p (r j p),c.q,c.own,c.ji,s,c.maps,c.pG,c.ps,c.qX,c.cd,c.fd,c.oX,c.oY,c.lt,c.eT,c.cJ⟩
theorem qk.gB{sp su D0}(p:qk u a sp su j w b e d f h l i n D0 m)(C:u.heap.size<=v.heap.size)(y:∀k,i k->v.heap[k]?=u.heap[k]?)(E:∀k,n k->v.heap[k]?=u.heap[k]?):qk v a sp su j w b e d f h l i n D0 m:=by
 refine⟨?_,b4 p.row fun g z=>y g (p.ps g z),fun o F=>(p.chg o F).gU E (fun _ x=>x),b4 p.mem fun g z=>y g (p.qX g z),p.rT,p.rU,p.rV,p.le,p.len,fun r D=> ?_,p.mo,?_,p.own,p.ji,p.maps,p.pG,p.ps,p.qX,p.cd,p.fd,p.oX,p.oY,fun k hF=>aoV (p.lt k hF) C,p.eT,fun k hF=>aoV (p.cJ k hF) C⟩
 ·unfold nr;rw[y _ p.pG];exact p.blk
 ·obtain⟨t,s,c⟩:=p.vb r D
  obtain⟨I,L,M⟩:=p.cd r D;exact⟨t.apart s (y _ I) (y _ L) (y _ M) fun k B=>y k B.1,s,c⟩
 ·exact p.q.apart p.own (y _ p.fd) (y _ p.oX) (y _ p.oY) fun k B=>y k B.1
theorem qk.af{w p e D0}{w':World}(c:qk w a f h j p b e d l q y i n D0 m)(g:J w w'):qk w' a f h j p b e d l q y i n D0 m:=c.gB g.size (fun k o=>g.block k (c.lt k o)) (fun k o=>g.block k (c.cJ k o))
theorem qk.insert{M z D0}(s:qk u h l y j w b z d f a e i n D0 m)(hl:b.length<300){x:av}(I:aP (fun p=>p=h\/j.ownBlock=some p) u M)(R:nr M h l y k w f)(F:fH 0 M k (lH x b))(hn:iT u j k)(N:pF u n (.iface x.t x.v) x.op.chg):
  ∃W,qk M h l y k w (lH x b) (min z (rX x b)) d f a e W n D0 m/\c0 i W u M:=by
 have X:∀{f a e:Nat} {Y:List (PId×eI)} {a7:List (PId×dS)},cu u f a e Y a7->cu M f a e Y a7:=fun ao=>ao.kept I fun p E=>by
  rcases E with rfl|E
  ·exact⟨_,_,_,s.blk,by decide⟩
  ·obtain⟨cur,N⟩:=bt s.row E
   exact⟨_,_,_,N,by decide⟩
 have Az:∀p∈nu d a e,p<u.heap.size:=fun p E=>by
  rcases lG.1 E with⟨r,F,rfl|rfl⟩|rfl|rfl
  ·exact s.lt _ (s.cd r F).2.1
  ·exact s.lt _ (s.cd r F).2.2
  ·exact s.lt _ s.oX
  ·exact s.lt _ s.oY
 have qY:∀p,oo i d a e p->oo (fun p=>i p\/(u.heap.size<=p/\p<M.heap.size)) d a e p:=fun p E=>⟨.inl E.1,E.2⟩
 have P:∀p,p∈nu d a e->¬oo (fun p=>i p\/(u.heap.size<=p/\p<M.heap.size)) d a e p:=fun p E R=>R.2 E
 have WM:∀p,n p->¬(p=h\/j.ownBlock=some p):=fun p E L=>by
  rcases L with rfl|L
  ·exact s.eT _ E s.pG
  ·exact s.eT _ E (s.ps _ L)
 refine⟨fun p=>i p\/(u.heap.size<=p/\p<M.heap.size),⟨R,F,fun o S=> ?_,b4 s.mem fun g ah=> ?_,s.rT,s.rU,s.rV,?_,by rw[WL];omega,fun r F=> ?_,fun B ar q4=> ?_,X s.q,s.own.mono qY (P _ (lG.2 (.inr (.inl rfl)))) (P _ (lG.2 (.inr (.inr rfl)))),s.ji,s.maps,.inl s.pG,fun p E=> ?_,fun p E=>.inl (s.qX p E),fun r F=>⟨.inl (s.cd r F).1,.inl (s.cd r F).2.1,.inl (s.cd r F).2.2⟩,.inl s.fd,.inl s.oX,.inl s.oY,fun p E=>E.elim (fun hF=>aoV (s.lt p hF) I.size) (fun x=>x.2),fun p Q E=>E.elim (s.eT p Q) (fun x=>by have :=s.cJ p Q;omega),fun p Q=>aoV (s.cJ p Q) I.size⟩,⟨I.os,I.tape,I.output,I.size,fun p E hF=>I.other p E fun L=> ?_,fun p E=>E.imp id (·.1)⟩⟩
 ·rcases ao3.1 ((Fk x b).mem_iff.1 S) with rfl|S
  ·exact N.gU (fun p E=>I.other p (s.cJ p E) (WM p E)) (fun _ x=>x)
  ·exact(s.chg o S).gU (fun p E=>I.other p (s.cJ p E) (WM p E)) (fun _ x=>x)
 ·obtain⟨cur,N⟩:=bt s.mem ah
  refine I.other g (aM N) fun L=> ?_
  rcases L with rfl|L
  ·exact absurd (bz N s.blk) (by decide)
  ·obtain⟨iy,b7⟩:=bt s.row L
   exact absurd (bz N b7) (by decide)
 ·rw[WL];have :=s.le;omega
 ·obtain⟨C,D,c⟩:=s.vb r F
  exact⟨X C,D.mono qY (P _ (lG.2 (.inl ⟨r,F,.inl rfl⟩))) (P _ (lG.2 (.inl ⟨r,F,.inr rfl⟩))),c⟩
 ·have :=s.mo B ar (by omega)
  rw[<-aqm]at this⊢;rw[WK (by omega)];exact this
 ·rcases hn with U|U
  ·rw[U]at E
   exact .inl (s.ps p E)
  ·refine .inr ⟨U p E,?_⟩
   obtain⟨cur,N⟩:=bt F E;exact aM N
 ·rcases L with rfl|L
  ·exact hF s.pG
  ·exact hF (s.ps _ L)
theorem agc(c:(nu d q y).Nodup)(i:∀k∈nu d q y,k<l)(s:l<=a)(t:l<=f)(n:a≠f):(nu (d.take h) a f).Nodup:=by
 unfold nu at c i⊢;obtain⟨o,_,_⟩:=aps.1 c;have j:((d.take h).flatMap fun r=>[r.b,r.e]).Sublist (d.flatMap fun r=>[r.b,r.e]):=by
  conv=>rhs;rw[<-aqk h d]
  rw[apt];exact List.sublist_append_left _ _
 refine aps.2 ⟨j.nodup o,by simp[n],fun g p b m=> ?_⟩;have :=i g (apR _ (j.subset p));simp at m;rcases m with rfl|rfl<;>omega
theorem qk.back{P B C D0 W}(t:qk u e f P k w b B d C q y i n D0 m)(cl:a<d.length)(he:a*f-P<=B)(M:aP (fun s=>s=e\/w.ownBlock=some s) u v)(Q:nr v e f P k j W)(I:tP 0 v j ((d.take (a+1)).map (·.d)))(aH:j.ownBlock=w.ownBlock)(N:cu v W h l d[a].D.1 d[a].D.2)(h1:u.heap.size<=W)(h2:u.heap.size<=h)(ak:u.heap.size<=l)(aL:h≠l):
  ∃aS,kU v e f P k j b (a*f-P) (d.take (a+1)) W h l aS n D0 d[a].D/\c0 i aS u v:=by
 have C9:∀{C q y:Nat} {os:List (PId×eI)} {a7:List (PId×dS)},cu u C q y os a7->cu v C q y os a7:=fun N=>N.kept M fun s F=>by
  rcases F with rfl|F
  ·exact⟨_,_,_,t.blk,by decide⟩
  ·obtain⟨cur,R⟩:=bt t.mem F
   exact⟨_,_,_,R,by decide⟩
 have Az:∀s∈nu d q y,s<u.heap.size:=fun s F=>by
  rcases lG.1 F with⟨r,I,rfl|rfl⟩|rfl|rfl
  ·exact t.lt _ (t.cd r I).2.1
  ·exact t.lt _ (t.cd r I).2.2
  ·exact t.lt _ t.oX
  ·exact t.lt _ t.oY
 have S:∀r,r∈d.take (a+1)->r∈d:=fun r I=>apx I
 have X:∀s,oo i d q y s->oo (fun s=>i s\/(u.heap.size<=s/\s<v.heap.size)) (d.take (a+1)) h l s:=fun s F=>⟨.inl F.1,fun Q=>by
  have :=t.lt _ F.1;rcases lG.1 Q with⟨r,I,B⟩|rfl|rfl
  ·exact F.2 (lG.2 (.inl ⟨r,S r I,B⟩))
  ·omega
  ·omega⟩
 have Y:∀s,s∈nu (d.take (a+1)) h l->¬oo (fun s=>i s\/(u.heap.size<=s/\s<v.heap.size)) (d.take (a+1)) h l s:=fun s F Q=>Q.2 F
 obtain⟨_,_,PB⟩:=N.ae;obtain⟨_,_,Fh⟩:=N.he;have aq:=PB.lt;have aU:=Fh.lt;have a8:=N.lt;obtain⟨q5,Lp,pJ⟩:=t.vb d[a] (aoY cl);have hle:=t.le;refine⟨fun s=>i s\/(u.heap.size<=s/\s<v.heap.size),⟨Q,b4 t.row fun g ah=> ?_,fun o ae=>(t.chg o ae).gU (fun s F=>M.other s (t.cJ s F) fun L=> ?_) (fun _ x=>x),I,t.rT,t.rU,t.rV,by omega,t.len,fun r I=> ?_,fun D ar=> ?_,N,?_,pJ,t.mo a cl he,agc t.maps Az h2 ak aL,.inl t.pG,fun s F=>.inl (t.ps s F),fun s F=>.inl (t.qX s (aH▸F)),fun r I=>⟨.inl (t.cd r (S r I)).1,.inl (t.cd r (S r I)).2.1,.inl (t.cd r (S r I)).2.2⟩,.inr ⟨h1,a8⟩,.inr ⟨h2,aq⟩,.inr ⟨ak,aU⟩,fun s F=>F.elim (fun hF=>aoV (t.lt s hF) M.size) (fun x=>x.2),fun s hi F=>F.elim (t.eT s hi) (fun x=>by have :=t.cJ s hi;omega),fun s hi=>aoV (t.cJ s hi) M.size⟩,⟨M.os,M.tape,M.output,M.size,fun s F hF=>M.other s F fun L=> ?_,fun s F=>F.imp id (·.1)⟩⟩
 ·obtain⟨cur,R⟩:=bt t.row ah
  refine M.other g (aM R) fun L=> ?_
  rcases L with rfl|L
  ·exact absurd (bz R t.blk) (by decide)
  ·obtain⟨iy,b7⟩:=bt t.mem L
   exact absurd (bz R b7) (by decide)
 ·rcases L with rfl|L
  ·exact t.eT _ F t.pG
  ·exact t.eT _ F (t.qX _ L)
 ·obtain⟨E,z,c⟩:=t.vb r (S r I)
  exact⟨C9 E,z.mono X (Y _ (lG.2 (.inl ⟨r,I,.inl rfl⟩))) (Y _ (lG.2 (.inl ⟨r,I,.inr rfl⟩))),c⟩
 ·rw[ao7]at ar
  have hjL:D*f<=a*f:=apJ f (by omega);rw[aqo];exact t.mo D (by omega) (by omega)
 ·exact⟨aL,Y _ (lG.2 (.inr (.inl rfl))),Y _ (lG.2 (.inr (.inr rfl))),fun p U z e=>X z (Lp.fE p U z e),fun p U s F z e=>X z (Lp.ij p U s F z e),fun p U z e=>X z (Lp.gr p U z e)⟩
 ·rcases L with rfl|L
  ·exact hF t.pG
  ·exact hF (t.qX _ L)
end
section
open Go.RowKit Tryz
attribute [local go_sem ↓] Go.wp_at_zero Go.wp_at_succ
variable {a b e f h i:Nat}{d:List av}
theorem WN{e:Nat}(i:1<=a)(j:b<a):((b+e)/a)*a-b<=e/\(b+(((b+e)/a)*a-b))/a=(b+e)/a:=by
 have d:=Nat.div_add_mod (b+e) a;have f:=Nat.mod_lt (b+e) i;generalize(b+e)/a=L at *;generalize(b+e)%a=t at *;have c:a*L=L*a:=ara _ _;refine⟨by omega,?_⟩;by_cases h:b<=L*a
 ·rw[show b+(L*a-b)=L*a by omega,Nat.mul_div_cancel _ i]
 ·have k:L=0:=by
   rcases Nat.eq_zero_or_pos L with g|g
   ·exact g
   ·have :=apJ a g;omega
  subst k;rw[show b+(0*a-b)=b by omega,Nat.div_eq_of_lt j]
theorem agd(d:h=(b+e)/a+1)(g:f<h):f*a-b<=e:=by
 have c:f<=(b+e)/a:=by omega
 have i:=apJ a c;have j:=Nat.div_mul_le_self (b+e) a;omega
theorem age{w P s e l Y F I D0 D}(j:qk w f a b P s d e l h i Y F I D0 D)(t:(b+e)/a<l.length):
  O 190 #[Z f,A e] w fun r n=>∃vr' Q o p q m D',r=.returned (A ((((b+e)/a)*a-b:Nat):Int))/\kU n f a b P vr' d (((b+e)/a)*a-b) Q o p q m I D0 D'/\Q.length=(b+e)/a+1/\c0 F m w n:=by
 obtain⟨R,lN⟩:=WN (e:=e) j.rT j.rV;have hle:=j.le;have hlen:=j.len;have eu:=j.rU;have uV:=j.rV;obtain⟨S,Lp,pJ⟩:=j.vb l[(b+e)/a] (aoY t);have U:(l.map (·.d))[(b+e)/a]?=some l[(b+e)/a].d:=by rw[ap7,apH t];rfl
 have W:(l.take ((b+e)/a+1)).length=(b+e)/a+1:=by rw[ao7];omega
 rcases(show(b+e)/a+1=l.length\/(b+e)/a+1<l.length by omega) with v|v
 ·refine(aeT j.blk j.mem e (by omega) j.rT j.rU (by omega) _ rfl (by rw[aoU];exact v) U S).mono ?_
  rintro r n ⟨o,p,q,rfl,x,y,⟨z,B,C,E⟩,u⟩;have O7:=u.mono (S':=fun k=>k=f\/s.ownBlock=some k) (fun k hk=>.inl hk);have gS:tP 0 n s ((l.take ((b+e)/a+1)).map (·.d)):=by
   rw[apc (by omega)];exact b4 j.mem fun g ah=>by
    obtain⟨cur,L⟩:=bt j.mem ah;exact u.other g (aM L) fun bY=>by
     rw[bY]at L;exact absurd (bz L j.blk) (by decide)
  obtain⟨m,M,N⟩:=j.back t R O7 x gS rfl y z B C E;exact⟨s,_,o,p,q,m,_,rfl,M,W,N⟩
 ·refine(aeW j.blk j.mem e (by omega) j.rT j.rU (by omega) _ rfl (by rw[aoU];exact v) U S).mono ?_
  rintro r n ⟨g,c,o,p,q,aH,rfl,x,X,y,⟨z,B,C,E⟩,u⟩;rw[<-aqm]at X;obtain⟨m,M,N⟩:=j.back t R u x X aH.symm y z B C E;exact⟨_,_,o,p,q,m,_,rfl,M,W,N⟩
def ja (a b:List av):List av:=b.foldl (fun l x=>lH x l) a
theorem WO{b:List av}(c:a<d.length):ja b (d.take (a+1))=lH d[a] (ja b (d.take a)):=by
 rw[aph c];unfold ja;rw[apX];rfl
theorem A8:∀(b a:List av),(ja a b).Perm (b++a)
 |[],a=>.refl _
 |x::b,a=>by
  have c:=A8 b (lH x a);have d:=(Fk x a).append_left b;exact(c.trans d).trans List.perm_middle
theorem PN(a b:List av):(ja a b).length=a.length+b.length:=by have :=(A8 b a).length_eq;rw[aoW]at this;omega
theorem Lq:∀(b a:List av),pH a->((b++a).map fun o=>o.op.id).Nodup->pH (ja a b)
 |[],a,h,_=>h
 |x::b,a,h,c=>by
  simp only[apC,apb,apg]at c;refine Lq b (lH x a) (WJ x a h fun o d e=>c.1 ?_) ?_
  ·exact e▸aoX.2 ⟨o,aqA _ d,rfl⟩
  ·have f:((b++lH x a).map fun o=>o.op.id).Perm ((x::(b++a)).map fun o=>o.op.id):=((((Fk x a).append_left b).trans List.perm_middle).map _)
   exact f.nodup_iff.2 (by simpa using c)
theorem agf{w dm cb L be F I D0 D}(m:kU w f b a dm cb d d.length L h i be F I D0 D)(uH:L.length=(a+d.length)/b+1)(au:pH d)(n:List av)(C:((n++d).map fun o=>o.op.id).Nodup)(hlen:d.length+n.length<=300)(v:Value)(aH:fH 0 w v n)(tc:∀k,v.ownBlock=some k->¬F k)(hc:∀x∈n,pF w I (.iface x.t x.v) x.op.chg):
  O 170 #[Z f,v] w fun e w'=>(∃r,e=.returned r)/\∃E vr' hM ca h3 h4 z D',kU w' f b a E vr' (ja d n) (ja d n).length hM ca h3 h4 z I D0 D'/\hM.length=(a+(ja d n).length)/b+1/\c0 F z w w':=by
 obtain⟨jn,co,rfl,np,PC,xm⟩:=bp m.row;clear xm;obtain⟨dp,de,rfl,sD,ve,td⟩:=bp aH;unfold maxLen at PC ve;obtain⟨bc,a6,bd,bV,dC⟩:=ga m.blk;clear bc a6 bV dC;have y:=aa (And.intro m (And.intro uH au));clear m uH au;have M:=aa (And.intro aH (And.intro tc (And.intro hc C)));clear aH tc hc C;have PO:=aa td;clear td;go_enter func170,ntmps170;go_wp2_with fail
 go_loopw [5,16] (fun e l wr=>∃k q E z,k<=n.length/\l=A (k:Nat)/\e=A (q:Nat)/\q<=d.length/\qk wr f b a E cb (ja d (n.take k)) q L h i be z I D0 D/\(ja d (n.take k)).take q=d.take q/\c0 F z w wr) (fun _ l _=>n.length-(intOf l).toNat)
 case atStart=>exact⟨0,d.length,_,F,aoR _,rfl,rfl,aoP _,y.o.1.x,rfl,c0.cQ (aoQ _ _)⟩
 case round=>
  obtain⟨k,q,E,z,hk,rfl,rfl,nM,oj,nG,cw⟩:=hrel;have s:=aa (And.intro oj (And.intro nG cw));clear oj nG cw;have q6:=aa (show fH 0 wr (.slice dp n.length de) n from b4 M.o.1 fun g ah=>by
   obtain⟨cur,hc⟩:=bt M.o.1 ah;exact s.o.2.2.other g (aM hc) (M.o.2.1 g ah))
  by_cases N:k<n.length
  ·obtain⟨g,rfl⟩:=PO.o 0 (by omega)
   obtain⟨ct,aj,aw,cY⟩:=fH.cells q6.o k N;have h5:(0:Int)<=(k:Int):=ao0 _;have c3:(k:Int)<(n.length:Int):=by omega
   have ax:=aa ((aoQ wr.heap.size wr).alloc (aoP _) (.cells #[A n[k].op.id.1,A n[k].op.id.2,A n[k].op.nth,.iface n[k].t n[k].v] 210));have bS:=aa (s.o.1.af ax.o);have qQ:=aa (show(ja d (n.take k)).length=d.length+k by rw[PN,ao7];omega);have nn:=aa (show pH (ja d (n.take k))/\∀o∈ja d (n.take k),o.op.id≠n[k].op.id from by
    have C:=M.o.2.2.2;have pI:(n.take k++d).Sublist (n++d):=List.Sublist.append (List.take_sublist _ _) (List.Sublist.refl _);refine⟨Lq _ _ y.o.2.2 ((pI.map _).nodup C),fun o ae e=> ?_⟩;have P:=(A8 _ _).mem_iff.1 ae;have rW:n=n.take k++n[k]::n.drop (k+1):=by
     rw[<-aqK N,aqk]
    rw[rW,apf,ao8,aps]at C;obtain⟨_,cm,nD⟩:=C;rcases aoZ.1 P with P|P
    ·exact nD _ (aoX.2 ⟨o,P,rfl⟩) _ (aoX.2 ⟨n[k],apR _ ao6,rfl⟩) e
    ·rw[apC,apb,apg]at cm
     exact cm.1 (aoX.2 ⟨o,aqA _ P,e⟩))
   obtain⟨p,Q⟩:∃p,p=rX n[k] (ja d (n.take k)):=⟨_,rfl⟩;have fl:p<=d.length+k:=by rw[Q,<-qQ.o];exact PM _ _
   have cZ:=aa (aeP bS.o.blk bS.o.row n[k] p (by rw[qQ.o];exact fl) (fun l hi PQ=>aga (WG _ _ l hi (Q▸PQ))) (fun l hi PQ=>agb (WI _ _ nn.o.1 nn.o.2 l hi (Q▸PQ))) (by rw[qQ.o];omega));have ed:=aa Q;clear Q;obtain⟨u,N2⟩:∃u,u=min q p:=⟨_,rfl⟩;go_wp2_with fail
   refine cZ.o.mono ?_;rintro e w2 ⟨WQ,rfl,qG,gh,lN,jv⟩;have R:=aa (show ∃S,qk w2 f b a WQ cb (ja d (n.take (k+1))) u L h i be S I D0 D/\c0 z S (wr.alloc (.cells #[A n[k].op.id.1,A n[k].op.id.2,A n[k].op.nth,.iface n[k].t n[k].v] 210)) w2 from by
    rw[WO N,N2,ed.o];refine bS.o.insert (by rw[qQ.o];omega) jv qG (by rw[PL,<-ed.o];exact gh) lN ?_;exact(M.o.2.2.1 n[k] (aoY N)).gU (fun j U=>(ax.o.block j (s.o.1.cJ j U)).trans (s.o.2.2.other j (y.o.1.cJ j U) (y.o.1.eT j U))) (fun _ x=>x))
   clear qG gh lN jv;obtain⟨S,WR,W⟩:=R.o;clear R;have R:=aa (And.intro WR (s.o.2.2.trans (W.before ax.o)));clear WR W;have WS:(ja d (n.take (k+1))).take u=d.take u:=by
    rw[WO N,WK (by rw[<-ed.o];omega)];have :=congrArg (List.take u) s.o.2.1;rwa [aqs,aqs,show min u q=u by omega]at this
   have ud:=aa WS;clear WS;go_wp2;rw[show min (q:Int) (p:Int)=((u:Nat):Int) by omega];go_roundw
   case rel=>exact⟨k+1,u,WQ,S,by omega,by go_num,rfl,by omega,R.o.1,ud.o,R.o.2⟩
   case measure=>simp[intOf];omega
  ·have hL:k=n.length:=by omega
   subst hL;rw[aqa]at s;have b8:=aa (PN d n);by_cases heq:q<d.length
   ·have cl:(a+q)/b<L.length:=by
     rw[y.o.2.1];have :=Nat.div_le_div_right (c:=b) (show a+q<=a+d.length by omega);omega
    have aK:=aa (age s.o.1 cl);have Hz:=aa (WN (e:=q) s.o.1.rT s.o.1.rV);go_wp2_with fail
    refine aK.o.mono ?_;rintro e w2 ⟨vr2,rs2,d2,bo2,eB,S,gG,rfl,wj,lg,W⟩;have dD:=aa (Wo wj (by rw[lg,Hz.o.2]));have iR:=aa (s.o.2.2.trans W);clear wj lg W;go_wp2_with fail
    refine dD.o.mono ?_;rintro e w3 ⟨⟨r,rfl⟩,PR,PS,rY,HG,X,Y,Ba⟩;have B:=aa (And.intro X (And.intro Y (iR.o.trans Ba)));clear X Y Ba;go_wp2;go_end0
    exact⟨⟨_,rfl⟩,E,PR,PS,d2,bo2,eB,rY,HG,B.o.1,B.o.2.1,B.o.2.2⟩
   ·obtain rfl:q=d.length:=by omega
    have ea:=s.o.1.g (fun j U=>agd y.o.2.1 U) (by
     rw[<-aqm,s.o.2.1];have :=y.o.1.did;rwa [<-aqm]at this)
    have dD:=aa (Wo ea y.o.2.1);clear ea;go_wp2_with fail
    refine dD.o.mono ?_;rintro e w3 ⟨⟨r,rfl⟩,PR,PS,rY,HG,X,Y,Ba⟩;have B:=aa (And.intro X (And.intro Y (s.o.2.2.trans Ba)));clear X Y Ba;go_wp2;go_end0
    exact⟨⟨_,rfl⟩,E,PR,PS,h,i,be,rY,HG,B.o.1,B.o.2.1,B.o.2.2⟩
end
section
open Go.RowKit Tryz
structure HK (t:TypeId):Prop where
 eql:∀(x y:PId) (W:World),(Op.equal t (cX x) (cX y)).run prog W=.ok (et x.1 x.2 y.1 y.2) W
 check:∀(b:Bool) (x:PId) (W:World),(Instr.checkKey b 10000 t (cX x)).run prog W=.ok () W
 under:∃Bb,prog.underlying t=some (.struct Bb)
theorem WT {t:TypeId} (a:HK t) {ν:Type} (c:ν->Value) (x:PId) (W:World):∀(b:List MapEntry) (m:List (PId×ν)) (i:Nat),kL cX c b m->
  (Instr.findAsking t (cX x) b i).run prog W=.ok ((kk x m i).map fun r=>(r.1,c r.2)) W
 |[],[],i,_=>rfl
 |[],p::m,i,h=>by simp[kL]at h
 |e::b,[],i,h=>by simp[kL]at h
 |e::b,p::m,i,h=>by
  unfold kL at h;simp only[apb,aq2,aqC]at h;obtain⟨⟨f,g⟩,j⟩:=h;rw[Instr.findAsking,f];have :=a.eql x p.1 W;simp only[apk,this,apq,Ng];unfold kk;by_cases d:x=p.1
  ·simp[d,g]
  ·simp only[d,decide_false,if_false,apG]
   exact WT a c x W b m (i+1) j
theorem HK.key{t}(a:HK t):xb PId t cX:=⟨a.check,fun c x W b m h=>by
 obtain⟨d,f⟩:=a.under;unfold Instr.findKey;rw[apk,run_underlying f,apq];cases b with
 |nil=>
  have :m=[]:=by unfold kL at h;simpa using h.symm
  subst this;rfl
 |cons e b=>
  have g:Instr.findNow (TypeDesc.struct d) (cX x) (e::b) 0=none:=rfl;rw[g];exact WT a c x W _ m 0 h,SX⟩
theorem agh:HK 371:=by
 refine⟨fun x y W=> ?_,fun b x W=> ?_,⟨_,underlying371⟩⟩
 ·unfold cX
  show(Op.equalIn (9998+1+1) 371 _ _).run prog W=_;go_simp;unfold et;by_cases c:x.1=y.1<;>by_cases d:x.2=y.2<;>simp[c,d]
 ·unfold cX
  have e:∀(n:Nat) (a:Int),(Instr.checkKey b (n+1) 3 (A a)).run prog W=.ok () W:=fun n a=>by
   rw[Instr.checkKey];go_simp
  show(Instr.checkKey b (9998+1+1) 371 _).run prog W=_;rw[Instr.checkKey];go_simp
theorem agi:HK 164:=by
 refine⟨fun x y W=> ?_,fun b x W=> ?_,⟨_,underlying164⟩⟩
 ·unfold cX
  show(Op.equalIn (9998+1+1) 164 _ _).run prog W=_;go_simp;unfold et;by_cases c:x.1=y.1<;>by_cases d:x.2=y.2<;>simp[c,d]
 ·unfold cX
  have e:∀(n:Nat) (a:Int),(Instr.checkKey b (n+1) 3 (A a)).run prog W=.ok () W:=fun n a=>by
   rw[Instr.checkKey];go_simp
  show(Instr.checkKey b (9998+1+1) 164 _).run prog W=_;rw[Instr.checkKey];go_simp
theorem Lr:xb PId 371 cX:=agh.key
theorem PT:xb PId 164 cX:=agi.key
def xY (n:Int):Value:=A n
theorem agj(b:Bool)(x:Int)(W:World):(Instr.checkKey b 10000 3 (xY x)).run prog W=.ok () W:=by
 unfold xY;show(Instr.checkKey b (9999+1) 3 _).run prog W=_;rw[Instr.checkKey];go_simp
theorem WU {ν:Type} (b:ν->Value) (x:Int):∀(a:List MapEntry) (m:List (Int×ν)) (i:Nat),kL xY b a m->Instr.findNow (.int .i64) (xY x) a i=some ((kk x m i).map fun r=>(r.1,b r.2))
 |[],[],i,_=>rfl
 |[],p::m,i,h=>by simp[kL]at h
 |e::a,[],i,h=>by simp[kL]at h
 |e::a,p::m,i,h=>by
  unfold kL at h;simp only[apb,aq2,aqC]at h;obtain⟨⟨d,f⟩,g⟩:=h;unfold Instr.findNow;have j:Instr.sameNow (.int .i64) (xY x) e.key=some (decide (x=p.1)):=by
   rw[d];show some (x==p.1)=_;congr 1
  rw[j];unfold kk;by_cases c:x=p.1
  ·simp[c,f]
  ·simp only[c,decide_false,if_false]
   exact WU b x a m (i+1) g
theorem WV:xb Int 3 xY:=⟨agj,fun a x W b m h=>by
 unfold Instr.findKey;rw[apk,run_underlying underlying3,apq,WU a x b m 0 h];rfl,fun x=>by simp[xY,Instr.sameBits]⟩
end
section
open Go.RowKit Tryz
attribute [local go_sem ↓] Go.wp_at_zero Go.wp_at_succ
variable {a d j l:Nat}{b:List av}{e h:Nat->Prop}{i:Nat->Int}{k m:World}
def pK (N:Nat) (a:Nat->Int):Array Value:=((List.range N).map fun i=>A (a i)).toArray
theorem agk{has:Nat->Int}(h:a<d):(pK d has)[a]?=some (A (has a)):=by
 simp[pK,h]
theorem agl(m:Int):(pK a i).setIfInBounds d (A m)=pK a (upd i d m):=by
 apply Array.ext_getElem?;intro b;rw[aqj];by_cases e:d=b
 ·subst e
  by_cases c:d<a
  ·simp[pK,c,upd]
  ·simp[pK,c]
 ·rw[if_neg e]
  by_cases c:b<a
  ·simp[pK,c,upd,ao5 e]
  ·simp[pK,c]
def PU (o:av):Value:=.agg #[A o.op.id.1,A o.op.id.2,A o.op.nth,.iface o.t o.v]
def PV (N:Nat) (g:Nat):Value:=.slice (some (H g)) N N
structure fU where
 ey:Nat
 ab:Nat
 il:Nat
 jb:Nat
 su:Nat
 d:Nat
 aA:Nat
 be:Nat
 dm:Value
 cb:Value
 rs:List lh
 D0:nt
 D:cN
 kV:List (Int×Nat)
 eb:Nat->List Int
 wo:Nat->Prop
variable {f:fU}
def Fl (q a:fU):Prop:=a.D0=q.D0/\a.kV=q.kV/\a.eb=q.eb
structure dx (w:World) (aY:Nat) (F I:Nat->Prop) (N sp c:Nat) (gt:Int) (has:Nat->Int) (ops:List av) (early:List (PId×av)) (q:fU):Prop where
 blk:w.heap[aY]?=some (.cells #[A c,A gt,.slice (some (H q.ey)) N N,Z q.ab,.map (some q.il),.map (some q.jb)] 109 (0,0))
 heard:w.heap[q.ey]?=some (.cells (pK N has) 3 (0,0))
 jM:kU w q.ab sp q.su q.dm q.cb ops ops.length q.rs q.d q.aA q.be q.wo I q.D0 q.D
 cnt:q.rs.length=(q.su+ops.length)/sp+1
 kd:pH ops
 emap:∃es aR,isMap cX PU w q.il early es aR
 Bc:∀p∈early,pF w I (.iface p.2.t p.2.v) p.2.op.chg
 Df:∃es aR,isMap xY (PV N) w q.jb q.kV es aR
 zq:∀p∈q.kV,((q.eb p.2).length=N/\w.heap[p.2]?=some (.cells ((q.eb p.2).map fun x=>A x).toArray 3 (0,0)))/\p.2≠q.ey/\F p.2/\¬q.wo p.2
 hc:c<N
 hN:N<=4
 cd:F aY
 fr:F q.ey
 oZ:F q.il
 vg:F q.jb
 qN:∀k,q.wo k->F k
 pL:¬q.wo aY
 Bd:¬q.wo q.ey
 Be:¬q.wo q.il
 Dg:¬q.wo q.jb
 Dh:q.il≠q.jb
 lt:∀k,F k->k<w.heap.size
 eT:∀k,I k->¬F k
theorem dx.gB{w e F I N sp c gt has f early q}{b:World}(h:dx w e F I N sp c gt has f early q)(g:w.heap.size<=b.heap.size)(a:∀k,F k->b.heap[k]?=w.heap[k]?)(i:∀k,I k->b.heap[k]?=w.heap[k]?):dx b e F I N sp c gt has f early q:=by
 obtain⟨l,m,n⟩:=h.emap;obtain⟨o,r,s⟩:=h.Df;refine⟨by rw[a _ h.cd];exact h.blk,by rw[a _ h.fr];exact h.heard,h.jM.gB g (fun k hF=>a k (h.qN k hF)) i,h.cnt,h.kd,⟨l,m,n.gE (a _ h.oZ)⟩,fun p d=>(h.Bc p d).gU i (fun _ x=>x),⟨o,r,s.gE (a _ h.vg)⟩,fun p d=> ?_,h.hc,h.hN,h.cd,h.fr,h.oZ,h.vg,h.qN,h.pL,h.Bd,h.Be,h.Dg,h.Dh,fun k hF=>aoV (h.lt k hF) g,h.eT⟩;obtain⟨⟨t,u⟩,v,j,y⟩:=h.zq p d;exact⟨⟨t,by rw[a _ j];exact u⟩,v,j,y⟩
theorem dx.af{w c gt has early}{w':World}(g:dx w a e h d j c gt has b early f)(i:J w w'):dx w' a e h d j c gt has b early f:=g.gB i.size (fun k l=>i.block k (g.lt k l)) (fun k l=>i.block k (g.jM.cJ k l))
theorem dx.cells{w sp c gt has early}(g:dx w a e h d sp c gt has b early f):w.cell? (H a)=some (A c)/\w.cell? (K a 1)=some (A gt)/\w.cell? (K a 2)=some (.slice (some (H f.ey)) d d)/\w.cell? (K a 3)=some (Z f.ab)/\w.cell? (K a 4)=some (.map (some f.il))/\w.cell? (K a 5)=some (.map (some f.jb)):=by
 refine⟨?_,?_,?_,?_,?_,?_⟩<;>simp[World.cell?,g.blk]
theorem dx.Fm{c gt has early}(g:dx k j e h d l c gt has b early f)(i:a<d):k.cell? (K f.ey a)=some (A (has a)):=by
 have :=agk (has:=has) i;simp[World.cell?,g.heard,this]
theorem dx.cJ{w a F I N sp c gt has b early q}(h:dx w a F I N sp c gt has b early q):∀k,I k->k<w.heap.size:=h.jM.cJ
theorem dx.rg{gt early}(c:dx k a e h d j l gt i b early f):a≠f.ey:=fun g=>by
 have m:=c.blk;rw[g]at m;exact absurd (bz m c.heard) (by decide)
theorem dx.count{gt M early}(c:dx m a e h d l j gt M b early f){E:Int}(q:aP (fun g=>g=a\/g=f.ey) m k)(N:k.heap[a]?=some (.cells #[A j,A E,.slice (some (H f.ey)) d d,Z f.ab,.map (some f.il),.map (some f.jb)] 109 (0,0)))(P:k.heap[f.ey]?=some (.cells (pK d i) 3 (0,0))):dx k a e h d l j E i b early f:=by
 have r:∀g,e g->g≠a->g≠f.ey->k.heap[g]?=m.heap[g]?:=fun g hF Q R=>q.other g (c.lt g hF) fun w=>w.elim Q R
 have F:∀g,h g->k.heap[g]?=m.heap[g]?:=fun g y=>q.other g (c.cJ g y) fun w=>by
  rcases w with rfl|rfl
  ·exact c.eT _ y c.cd
  ·exact c.eT _ y c.fr
 obtain⟨s,t,z⟩:=c.emap;obtain⟨S,U,B⟩:=c.Df;have u:∀(o:Nat) (s:Array MapEntry) (t:Nat),m.heap[o]?=some (.map s t)->o≠a/\o≠f.ey:=fun o s t v=>by
  constructor
  ·rintro rfl;rw[c.blk]at v;cases v
  ·rintro rfl;rw[c.heard]at v;cases v
 refine⟨N,P,c.jM.gB q.size (fun g hF=>r g (c.qN g hF) (fun n=>c.pL (n▸hF)) (fun n=>c.Bd (n▸hF))) F,c.cnt,c.kd,⟨s,t,z.gE (r _ c.oZ (u _ _ _ z.blk).1 (u _ _ _ z.blk).2)⟩,fun p C=>(c.Bc p C).gU F (fun _ x=>x),⟨S,U,B.gE (r _ c.vg (u _ _ _ B.blk).1 (u _ _ _ B.blk).2)⟩,fun p C=> ?_,c.hc,c.hN,c.cd,c.fr,c.oZ,c.vg,c.qN,c.pL,c.Bd,c.Be,c.Dg,c.Dh,fun g hF=>aoV (c.lt g hF) q.size,c.eT⟩;obtain⟨⟨W,D⟩,I,L,X⟩:=c.zq p C;refine⟨⟨W,?_⟩,I,L,X⟩;rw[r _ L (fun n=> ?_) I]
 ·exact D
 ·rw[n]at D
  exact absurd (bz D c.blk) (by decide)
theorem dx.agm{N c gt R early z B C E F v I L u}(n:dx m l e h N a c gt i R early f)(o:c0 f.wo u m k)(M:kU k f.ab a j E F b b.length v z B C u h I L)(S:v.length=(j+b.length)/a+1)(U:pH b):
  ∃P,dx k l P h N a c gt i b early {f with su:=j,d:=z,aA:=B,be:=C,dm:=E,cb:=F,rs:=v,D0:=I,D:=L,wo:=u}/\c0 e P m k:=by
 have q:∀g,e g->¬f.wo g->k.heap[g]?=m.heap[g]?:=fun g hF r=>o.other g (n.lt g hF) r
 have W:∀g,h g->k.heap[g]?=m.heap[g]?:=fun g s=>o.other g (n.cJ g s) (n.jM.eT g s)
 have t:∀g,e g->¬f.wo g->¬u g:=fun g hF r X=>(o.sub g X).elim r fun x=>by have :=n.lt g hF;omega
 obtain⟨Y,aR,he⟩:=n.emap;obtain⟨jt,ju,r⟩:=n.Df;refine⟨fun g=>e g\/(m.heap.size<=g/\g<k.heap.size),⟨by rw[q _ n.cd n.pL];exact n.blk,by rw[q _ n.fr n.Bd];exact n.heard,M,S,U,⟨Y,aR,he.gE (q _ n.oZ n.Be)⟩,fun p w=>(n.Bc p w).gU W (fun _ x=>x),⟨jt,ju,r.gE (q _ n.vg n.Dg)⟩,fun p w=> ?_,n.hc,n.hN,.inl n.cd,.inl n.fr,.inl n.oZ,.inl n.vg,fun g hF=> ?_,t _ n.cd n.pL,t _ n.fr n.Bd,t _ n.oZ n.Be,t _ n.vg n.Dg,n.Dh,fun g hF=>hF.elim (fun x=>aoV (n.lt g x) o.size) (fun x=>x.2),fun g s hF=>hF.elim (n.eT g s) (fun x=>by have :=n.cJ g s;omega)⟩,⟨o.os,o.tape,o.output,o.size,fun g cM hF=>o.other g cM fun x=>hF (n.qN g x),fun g hF=>hF.imp id (·.1)⟩⟩
 ·obtain⟨⟨ak,aL⟩,bW,y,Q⟩:=n.zq p w
  exact⟨⟨ak,by rw[q _ y Q];exact aL⟩,bW,.inl y,t _ y Q⟩
 ·exact(o.sub g hF).imp (n.qN g) fun x=>⟨x,M.lt g hF⟩
def nw (gt:Int) (a:List av):Int:=a.foldl (fun g x=>max g x.op.id.1) gt
def hasAll (has:Nat->Int) (a:List av):Nat->Int:=a.foldl (fun h x=>upd h x.op.id.2.toNat x.op.nth) has
theorem agn{gt:Int}(c:a<b.length):nw gt (b.take (a+1))=max (nw gt (b.take a)) b[a].op.id.1:=by
 rw[aph c];unfold nw;rw[apX];rfl
theorem ago(c:a<b.length):hasAll i (b.take (a+1))=upd (hasAll i (b.take a)) b[a].op.id.2.toNat b[a].op.nth:=by
 rw[aph c];unfold hasAll;rw[apX];rfl
theorem WX{I gt early}(h:dx k a e I d j l gt i b early f)(q:List av)(cB:((q++b).map fun o=>o.op.id).Nodup)(hlen:b.length+q.length<=300)(L:∀x∈q,0<=x.op.id.2/\x.op.id.2<d)(v:Value)(aH:fH 0 k v q)(tc:∀c,v.ownBlock=some c->¬e c)(P:∀x∈q,pF k I (.iface x.t x.v) x.op.chg):
  O 142 #[Z a,v] k fun n w'=>(∃r,n=.returned r)/\∃Q fV,dx w' a Q I d j l (nw gt q) (hasAll i q) (ja b q) early fV/\Fl f fV/\c0 e Q k w':=by
 obtain⟨dp,de,rfl,sD,ve,td⟩:=bp aH;unfold maxLen at ve;have Bf:=h.hN;have y:=aa h;clear h;have D:=aa (And.intro aH (And.intro tc (And.intro P (And.intro cB L))));clear aH tc P cB L;have PO:=aa td;clear td;go_enter func142,ntmps142;go_wp2_with fail
 go_loopw [8] (fun m wr=>∃c,c<=q.length/\m=A (c:Nat)/\dx wr a e I d j l (nw gt (q.take c)) (hasAll i (q.take c)) b early f/\aP (fun c=>c=a\/c=f.ey) k wr) (fun m _=>q.length-(intOf m).toNat)
 case atStart=>exact⟨0,aoR _,rfl,y.o,aP.cQ (aoQ _ _)⟩
 case round=>
  obtain⟨c,z,rfl,bA,C⟩:=hrel;have s:=aa (And.intro bA C);clear bA C;have q6:=aa (show fH 0 wr (.slice dp q.length de) q from b4 D.o.1 fun g ah=>by
   obtain⟨cur,P⟩:=bt D.o.1 ah;exact s.o.2.other g (aM P) fun M=>by
    rcases M with rfl|rfl
    ·exact D.o.2.1 _ ah y.o.cd
    ·exact D.o.2.1 _ ah y.o.fr)
  by_cases R:c<q.length
  ·obtain⟨g,rfl⟩:=PO.o 0 (by omega)
   obtain⟨ct,aj,aw,cY⟩:=fH.cells q6.o c R;have h5:(0:Int)<=(c:Int):=ao0 _;have c3:(c:Int)<(q.length:Int):=by omega
   obtain⟨jm,ev⟩:=D.o.2.2.2.2 q[c] (aoY R);obtain⟨x,S⟩:∃x,x=q[c]:=⟨_,rfl⟩;rw[<-S]at ct aj aw cY jm ev;obtain⟨w,L⟩:∃w:Nat,x.op.id.2=(w:Int):=⟨x.op.id.2.toNat,by omega⟩;have HM:w<d:=by omega
   obtain⟨bc,U,bd,bV,dC,im⟩:=s.o.1.cells;clear bc bV dC im;have q7:=s.o.1.Fm HM;obtain⟨gk,mS⟩:∃gk,gk=nw gt (q.take c):=⟨_,rfl⟩;obtain⟨X,nb⟩:∃X,X=hasAll i (q.take c):=⟨_,rfl⟩;have WY:nw gt (q.take (c+1))=max gk x.op.id.1:=by rw[agn R,mS,S]
   have WZ:hasAll i (q.take (c+1))=upd X w x.op.nth:=by rw[ago R,nb,<-S,L];rfl
   rw[<-mS]at U s;rw[<-nb]at q7 s;rw[L]at aj;have pr:=aa (And.intro WY WZ);clear WY WZ;clear mS nb S;obtain⟨Y,mv⟩:∃Y,Y=max gk x.op.id.1:=⟨_,rfl⟩;have od:=s.o.1.lt _ s.o.1.cd;have cP:=s.o.1.lt _ s.o.1.fr;have po:=s.o.1.rg;have lq:=cS s.o.1.blk 1;have bS:=aa (afT (u:=A Y) s.o.1.blk);obtain⟨E,N⟩:∃E,E=wr.setCell (K a 1) (A Y):=⟨_,rfl⟩;rw[<-N]at bS;have KT:E.heap.size=wr.heap.size:=by rw[N];simp[World.setCell]
   have j1:=aa (show aP (fun c=>c=a) wr E by rw[N];exact aP.lf _ rfl);have W0:(0:Int)<=(w:Int):=ao0 _;have K2:(w:Int)<(d:Int):=by omega
   have hwn:wr.heap.size≠a:=by omega
   have A1:wr.heap.size≠f.ey:=by omega
   go_wp2_with fail
   go_region
   go_wp2_with fail
   rw[<-mv,<-N];have HGN:=aa mv;clear U lq mv N;have d2:E.cell? (K a 2)=some (.slice (some (H f.ey)) d d):=by simp[World.cell?,bS.o]
   have dE:=aa ((j1.o.other f.ey cP (ao5 po)).trans s.o.1.heard);have d4:=j1.o.cell (ao5 po) q7;have NB:=cS dE.o w;clear bd q7 ct aj aw cY;obtain⟨n0,c4,cm,nD⟩:=xJ E (A x.op.id.1) (A w) (A x.op.nth) (.iface x.t x.v) 210;clear n0 nD;rw[KT]at c4 cm;obtain⟨B,qT⟩:∃B,E.setCell (K f.ey w) (A x.op.nth)=B:=⟨_,rfl⟩;have W1:B.heap.size=wr.heap.size:=by rw[<-qT,<-KT];simp[World.setCell]
   have iC:=aa (show aP (fun c=>c=f.ey) E B by rw[<-qT];exact aP.lf _ rfl);have f2:B.cell? (K a 2)=some (.slice (some (H f.ey)) d d):=iC.o.cell po d2;obtain⟨Ln,q1,kz,n5⟩:=xJ B (A x.op.id.1) (A w) (A x.op.nth) (.iface x.t x.v) 210;clear Ln n5;rw[W1]at q1 kz;go_region_held3 (fun W=>W.cell? (K a 2)=some (.slice (some (H f.ey)) d d)/\W.cell? (V wr 1)=some (A w)/\W.cell? (V wr 2)=some (A x.op.nth)) (go_keep) (fail)
   go_wp2;go_roundw
   case rel=>
    have dD:=show B.heap[f.ey]?=some (.cells (pK d (upd X w x.op.nth)) 3 (0,0)) by rw[<-qT,setRow dE.o,agl]
    have cz:=(iC.o.other a (by omega) po).trans bS.o;have aZ:J B (B.alloc (.cells #[A x.op.id.1,A w,A x.op.nth,.iface x.t x.v] 210)).drew.drew:=((aoQ _ B).alloc (aoP _) _).drew.drew;have jv:aP (fun c=>c=a\/c=f.ey) wr B:=(j1.o.mono (S':=fun c=>c=a\/c=f.ey) fun c z=>.inl z).trans (iC.o.mono fun c z=>.inr z);refine⟨c+1,by omega,by go_num,?_,s.o.2.trans (jv.trans (aP.cQ aZ))⟩;rw[pr.o.1,pr.o.2,<-HGN.o];exact(s.o.1.count jv cz dD).af aZ
   case measure=>simp[intOf];omega
  ·have hL:c=q.length:=by omega
   subst hL;rw[aqa]at s;obtain⟨bc,U,bd,bV,dC,im⟩:=s.o.1.cells;clear bc U bd dC im;have bR:=aa (agf s.o.1.jM s.o.1.cnt s.o.1.kd q D.o.2.2.2.1 hlen (.slice dp q.length de) q6.o (fun c z hF=>D.o.2.1 c z (y.o.qN c hF)) (fun x al=>(D.o.2.2.1 x al).gU (fun p ar=>s.o.2.other p (y.o.cJ p ar) fun M=>by
    rcases M with rfl|rfl
    ·exact y.o.eT _ ar y.o.cd
    ·exact y.o.eT _ ar y.o.fr) (fun _ x=>x)))
   go_wp2_with fail
   refine bR.o.mono ?_;rintro n w3 ⟨⟨r,rfl⟩,oR,vr',hM,ca,h3,h4,HL,D',A9,vf,Ba⟩;have mm:=aa (And.intro A9 (And.intro vf Ba));clear A9 vf Ba;go_wp2;go_end0
   obtain⟨Q,Di,F⟩:=s.o.1.agm mm.o.2.2 mm.o.1 mm.o.2.1 (Lq q b s.o.1.kd D.o.2.2.2.1);have C:=s.o.2;refine⟨⟨_,rfl⟩,Q,_,Di,⟨rfl,rfl,rfl⟩,?_⟩;exact⟨F.os.trans C.os,F.tape.trans C.tape,F.output.trans C.output,aoS C.size F.size,fun c z hF=>(F.other c (aoV z C.size) hF).trans (C.other c z fun M=>by
    rcases M with rfl|rfl
    ·exact hF y.o.cd
    ·exact hF y.o.fr),fun c z=>(F.sub c z).imp id fun x=>aoS C.size x⟩
end
end Go.Proofs.YtnkpogjiiohapaaGreatDoor
