/- Our own text. -/
import Derived.Test.YtnkpogjiiohapaaGreatDoorShelf
import Derived.Lib.AppendIntMem
import Derived.Sort.Grow
import Derived.Test.YtnkpogjiiohapaaGreatDoorShelfB
import Derived.Test.YtnkpogjiiohapaaGreatDoorA12
import Derived.Test.YtnkpogjiiohapaaGreatDoorA15
import Derived.Test.YtnkpogjiiohapaaGreatDoorA10
import Derived.Test.YtnkpogjiiohapaaGreatDoorA14
import Derived.Test.YtnkpogjiiohapaaGreatDoorA11
import Derived.Test.YtnkpogjiiohapaaGreatDoorA07
set_option linter.unusedSimpArgs false
set_option linter.unusedVariables false
set_option maxRecDepth 1000000
set_option maxHeartbeats 4000000
namespace Go.Proofs.YtnkpogjiiohapaaGreatDoor
section
open Go.RowKit Tryz
variable {a j:Nat->Prop}{b d e q r s u:Nat}{h m:Value}{i n:World}{k:List av}{l:cN}
def pF (w:World) (I:Nat->Prop) (c:Value):kS->Prop
 |.inl l=>c=.iface 197 (.agg #[.bool l])
 |.inr (.inl (x,b))=>c=.iface 179 (.agg #[A x.1,A x.2,A b.1,A b.2])
 |.inr (.inr (.inl (o,a,x,d,e)))=>∃s,c=.iface 182 (.agg #[A o.1,A o.2,.string a,A x.1,A x.2,A d.1,A d.2.1,A d.2.2,s])/\er w s e/\∀k,s.ownBlock=some k->I k
 |.inr (.inr (.inr (o,a,x,e)))=>∃s,c=.iface 184 (.agg #[A o.1,A o.2,.string a,A x.1,A x.2,s])/\er w s e/\∀k,s.ownBlock=some k->I k
theorem pF.chg{w q}(c:pF w a h q):rL w h q:=by
 rcases q with l|⟨x,b⟩|⟨o,f,x,i,g⟩|⟨o,f,x,g⟩
 ·exact c
 ·exact c
 ·obtain⟨s,e,d,_⟩:=c;exact⟨s,e,d⟩
 ·obtain⟨s,e,d,_⟩:=c;exact⟨s,e,d⟩
theorem pF.gU{c q}(h:pF i a c q)(d:∀k,a k->n.heap[k]?=i.heap[k]?)(r:∀k,a k->j k):pF n j c q:=by
 rcases q with l|⟨x,b⟩|⟨o,t,x,v,u⟩|⟨o,t,x,u⟩
 ·exact h
 ·exact h
 ·obtain⟨s,e,m,f⟩:=h;exact⟨s,e,b4 m fun g p=>d g (f g p),fun k d=>r k (f k d)⟩
 ·obtain⟨s,e,m,f⟩:=h;exact⟨s,e,b4 m fun g p=>d g (f g p),fun k d=>r k (f k d)⟩
theorem mN.append:∀{l m:List nP} {D a b:cN},mN D l a->mN a m b->mN D (l++m) b
 |[],m,D,a,b,h,k=>by
  have e:a=D:=h;subst e;exact k
 |x::l,m,D,a,b,⟨c,d,f⟩,k=>⟨c,d,f.append k⟩
abbrev nt:=cN×List nP
def A3 (B:nt) (l:List nP) (D:cN):Prop:=mN B.1 (B.2++l) D
theorem A3.append{B l m a b}(h:A3 B l a)(k:mN a m b):A3 B (l++m) b:=by
 unfold A3 at *;rw[<-apf];exact mN.append h k
structure lh where
 d:Nat
 b:Nat
 e:Nat
 D:cN
variable {f:List lh}
def nu (a:List lh) (c d:Nat):List Nat:=a.flatMap (fun r=>[r.b,r.e])++[c,d]
def oo (F:Nat->Prop) (a:List lh) (b c:Nat) (k:Nat):Prop:=F k/\k∉nu a b c
structure kU (w:World) (ab sp su:Nat) (dm cb:Value) (ops:List av) (n:Nat) (rs:List lh) (d aA be:Nat) (F I:Nat->Prop) (D0:nt) (D:cN):Prop where
 blk:nr w ab sp su dm cb d
 row:fH 0 w dm ops
 chg:∀o∈ops,pF w I (.iface o.t o.v) o.op.chg
 mem:tP 0 w cb (rs.map (·.d))
 rT:1<=sp
 rU:sp<=50
 rV:su<sp
 le:n<=ops.length
 len:ops.length<=300
 vb:∀r∈rs,cu w r.d r.b r.e r.D.1 r.D.2/\fR r.b r.e (oo F rs aA be) r.D.1 r.D.2/\fG r.D
 mo:∀j (ar:j<rs.length),A3 D0 ((ops.map (·.op)).take (j*sp-su)) rs[j].D
 q:cu w d aA be D.1 D.2
 own:fR aA be (oo F rs aA be) D.1 D.2
 ji:fG D
 did:A3 D0 ((ops.map (·.op)).take n) D
 maps:(nu rs aA be).Nodup
 pG:F ab
 ps:∀k,dm.ownBlock=some k->F k
 qX:∀k,cb.ownBlock=some k->F k
 cd:∀r∈rs,F r.d/\F r.b/\F r.e
 fd:F d
 oX:F aA
 oY:F be
 lt:∀k,F k->k<w.heap.size
 eT:∀k,I k->¬F k
 cJ:∀k,I k->k<w.heap.size
theorem cu.apart{j l}(h:cu i e b d j l)(m:fR b d a j l)(q:n.heap[e]?=i.heap[e]?)(r:n.heap[b]?=i.heap[b]?)(s:n.heap[d]?=i.heap[d]?)(o:∀k,a k->n.heap[k]?=i.heap[k]?):cu n e b d j l:=by
 obtain⟨t,u,v⟩:=h.ae;obtain⟨w,x,y⟩:=h.he;refine⟨by rw[q];exact h.ai,⟨t,u,v.gE r⟩,⟨w,x,y.gE s⟩,fun p f=> ?_,fun p f=> ?_⟩
 ·exact(h.hk p f).gE (fun c g=>o c (m.fE p f c g)) (fun k z c g=>o c (m.ij p f k z c g))
 ·exact(h.aH p f).gE (fun c g=>o c (m.gr p f c g))
theorem lG:d∈nu f q r↔(∃a∈f,d=a.b\/d=a.e)\/d=q\/d=r:=by
 unfold nu;simp[api]
theorem kU.gB{sp su B D0}(p:kU i b sp su h m B d f e r s a j D0 l)(C:i.heap.size<=n.heap.size)(w:∀k,a k->n.heap[k]?=i.heap[k]?)(E:∀k,j k->n.heap[k]?=i.heap[k]?):kU n b sp su h m B d f e r s a j D0 l:=by
 refine⟨?_,b4 p.row fun g y=>w g (p.ps g y),fun o F=>(p.chg o F).gU E (fun _ x=>x),b4 p.mem fun g y=>w g (p.qX g y),p.rT,p.rU,p.rV,p.le,p.len,fun t D=> ?_,p.mo,?_,p.own,p.ji,p.did,p.maps,p.pG,p.ps,p.qX,p.cd,p.fd,p.oX,p.oY,fun k hF=>aoV (p.lt k hF) C,p.eT,fun k hF=>aoV (p.cJ k hF) C⟩
 ·unfold nr;rw[w _ p.pG];exact p.blk
 ·obtain⟨v,u,c⟩:=p.vb t D
  obtain⟨I,L,M⟩:=p.cd t D;exact⟨v.apart u (w _ I) (w _ L) (w _ M) fun k z=>w k z.1,u,c⟩
 ·exact p.q.apart p.own (w _ p.fd) (w _ p.oX) (w _ p.oY) fun k z=>w k z.1
theorem kU.af{w o n D0}{w':World}(c:kU w b d e h m o n f q r s a j D0 l)(g:J w w'):kU w' b d e h m o n f q r s a j D0 l:=c.gB g.size (fun k i=>g.block k (c.lt k i)) (fun k i=>g.block k (c.cJ k i))
theorem kU.done{Y su D0 D'}(w:kU i u Y su h m k e f s b d a j D0 l)(I:aP (fun p=>p=b\/p=d) i n)(vc:e<=r)(N:r<=k.length)(kD:mN l (((k.map (·.op)).drop e).take (r-e)) D')(ao:cu n s b d D'.1 D'.2)(ae:fR b d (fun p=>oo a f b d p\/i.heap.size<=p) D'.1 D'.2):
  ∃aS,kU n u Y su h m k r f s b d aS j D0 D'/\c0 a aS i n:=by
 obtain⟨es,aR,nm⟩:=w.q.ae;obtain⟨jt,ju,kR⟩:=w.q.he;have U:∀(p:Nat) (c:Array Value) (t:TypeId) (B:Nat×Nat),i.heap[p]?=some (.cells c t B)->n.heap[p]?=i.heap[p]?:=fun p c t B E=>I.other p (aM E) fun M=>by
  rcases M with rfl|rfl
  ·rw[nm.blk]at E;cases E
  ·rw[kR.blk]at E;cases E
 have fb:∀{z:TypeId} {size:Nat} {v:Value} {e:Nat} {xs:List Value},i.ownsRow 0 z size v e xs->n.ownsRow 0 z size v e xs:=fun F=>b4 F fun g ah=>by
  obtain⟨cur,hc⟩:=bt F ah;exact U g _ _ _ hc
 have W:∀p,a p->p≠b->p≠d->n.heap[p]?=i.heap[p]?:=fun p hF P Q=>I.other p (w.lt p hF) fun M=>M.elim P Q
 have bB:∀p,oo a f b d p->n.heap[p]?=i.heap[p]?:=fun p E=>W p E.1 (fun z=>E.2 (lG.2 (.inr (.inl z)))) (fun z=>E.2 (lG.2 (.inr (.inr z))))
 have qY:∀p,oo a f b d p->oo (fun p=>a p\/(i.heap.size<=p/\p<n.heap.size)) f b d p:=fun p E=>⟨.inl E.1,E.2⟩
 have Az:∀p∈nu f b d,p<i.heap.size:=fun p E=>by
  rcases lG.1 E with⟨y,F,rfl|rfl⟩|rfl|rfl
  ·exact w.lt _ (w.cd y F).2.1
  ·exact w.lt _ (w.cd y F).2.2
  ·exact w.lt _ w.oX
  ·exact w.lt _ w.oY
 have v8:∀y∈f,y.b≠b/\y.b≠d/\y.e≠b/\y.e≠d:=fun y F=>by
  have N:=w.maps;unfold nu at N;have R:=(aps.1 N).2.2;have P:y.b∈f.flatMap (fun y=>[y.b,y.e]):=api.2 ⟨y,F,by simp⟩;have Q:y.e∈f.flatMap (fun y=>[y.b,y.e]):=api.2 ⟨y,F,by simp⟩;exact⟨R _ P _ (by simp),R _ P _ (by simp),R _ Q _ (by simp),R _ Q _ (by simp)⟩
 have fA:=ae.there ao;refine⟨fun p=>a p\/(i.heap.size<=p/\p<n.heap.size),⟨?_,fb w.row,fun o e8=>(w.chg o e8).gU (fun p E=>I.other p (w.cJ p E) fun M=> ?_) (fun _ x=>x),fb w.mem,w.rT,w.rU,w.rV,N,w.len,fun y F=> ?_,w.mo,ao,?_,w.ji.mo kD,?_,w.maps,.inl w.pG,fun p E=>.inl (w.ps p E),fun p E=>.inl (w.qX p E),fun y F=>⟨.inl (w.cd y F).1,.inl (w.cd y F).2.1,.inl (w.cd y F).2.2⟩,.inl w.fd,.inl w.oX,.inl w.oY,fun p E=>E.elim (fun hF=>aoV (w.lt p hF) I.size) (fun x=>x.2),fun p S E=>E.elim (w.eT p S) (fun x=>by have :=w.cJ p S;omega),fun p S=>aoV (w.cJ p S) I.size⟩,⟨I.os,I.tape,I.output,I.size,fun p E hF=>I.other p E fun M=> ?_,fun p E=>E.imp id (·.1)⟩⟩
 ·unfold nr;rw[U _ _ _ _ w.blk];exact w.blk
 ·rcases M with rfl|rfl
  ·exact w.eT _ E w.oX
  ·exact w.eT _ E w.oY
 ·obtain⟨C,D,c⟩:=w.vb y F
  obtain⟨c4,cm,nD,Ln⟩:=v8 y F;exact⟨C.apart D (U _ _ _ _ C.ai) (W _ (w.cd y F).2.1 c4 cm) (W _ (w.cd y F).2.2 nD Ln) bB,D.mono qY (fun L=>L.2 (lG.2 (.inl ⟨y,F,.inl rfl⟩))) (fun L=>L.2 (lG.2 (.inl ⟨y,F,.inr rfl⟩))),c⟩
 ·refine fA.mono (fun p E=> ?_) (fun L=>L.2 (lG.2 (.inr (.inl rfl)))) (fun L=>L.2 (lG.2 (.inr (.inr rfl))))
  rcases E.1 with X|X
  ·exact qY p X
  ·exact⟨.inr ⟨X,E.2⟩,fun L=>by have :=Az p L;omega⟩
 ·have :=w.did.append kD
  rwa [<-List.take_add,show e+(r-e)=r by omega]at this
 ·rcases M with rfl|rfl
  ·exact hF w.oX
  ·exact hF w.oY
theorem kU.K0{w vr' n D0}(y:kU w b s u h m k n f q d e a j D0 l)(N:aP (fun v=>v=b\/m.ownBlock=some v) w i){r:lh}(Q:nr i b s u h vr' q)(U:tP 0 i vr' (f.map (·.d)++[r.d]))(hn:iT w m vr')(L:cu i r.d r.b r.e r.D.1 r.D.2)(Y:r.D=l)(h1:w.heap.size<=r.d)(h2:w.heap.size<=r.b)(ak:w.heap.size<=r.e)(aL:r.b≠r.e)(ar:f.length*s-u=n):
  ∃aS,kU i b s u h vr' k n (f++[r]) q d e aS j D0 l/\c0 a aS w i:=by
 have gm:∀(v:Nat) (c:Array Value) (t:TypeId) (F:Nat×Nat),w.heap[v]?=some (.cells c t F)->t≠204->t≠101->i.heap[v]?=w.heap[v]?:=fun v c t F I c4 cm=>N.other v (aM I) fun M=>by
  rcases M with rfl|M
  ·exact c4 (bz I y.blk)
  ·obtain⟨cur,P⟩:=bt y.mem M
   exact cm (bz I P)
 have ank:∀(v:Nat) (es:Array MapEntry) (aR:Nat),w.heap[v]?=some (.map es aR)->i.heap[v]?=w.heap[v]?:=fun v es aR I=>N.other v (aM I) fun M=>by
  rcases M with rfl|M
  ·have :=y.blk;unfold nr at this;rw[I]at this;cases this
  ·obtain⟨cur,P⟩:=bt y.mem M
   rw[I]at P;cases P
 have C9:∀{q d e:Nat} {os:List (PId×eI)} {a7:List (PId×dS)},cu w q d e os a7->cu i q d e os a7:=fun L=>L.kept N fun v I=>by
  rcases I with rfl|I
  ·exact⟨_,_,_,y.blk,by decide⟩
  ·obtain⟨cur,P⟩:=bt y.mem I
   exact⟨_,_,_,P,by decide⟩
 have Az:∀v∈nu f d e,v<w.heap.size:=fun v I=>by
  rcases lG.1 I with⟨r,U,rfl|rfl⟩|rfl|rfl
  ·exact y.lt _ (y.cd r U).2.1
  ·exact y.lt _ (y.cd r U).2.2
  ·exact y.lt _ y.oX
  ·exact y.lt _ y.oY
 have R:∀v,v∈nu (f++[r]) d e↔v∈nu f d e\/v=r.b\/v=r.e:=fun v=>by
  rw[lG,lG];constructor
  ·rintro(⟨C,L,z⟩|z)
   ·rcases aoZ.1 L with L|L
    ·exact .inl (.inl ⟨C,L,z⟩)
    ·obtain rfl:=ao2.1 L
     exact .inr z
   ·exact .inl (.inr z)
  ·rintro((⟨C,L,z⟩|z)|z)
   ·exact .inl ⟨C,apR _ L,z⟩
   ·exact .inr z
   ·exact .inl ⟨r,aqA _ (ao2.2 rfl),z⟩
 have W:∀v,oo a f d e v->oo (fun v=>a v\/(w.heap.size<=v/\v<i.heap.size)) (f++[r]) d e v:=fun v I=>⟨.inl I.1,fun Q=>by
  rcases(R v).1 Q with Q|rfl|rfl
  ·exact I.2 Q
  ·have :=y.lt _ I.1;omega
  ·have :=y.lt _ I.1;omega⟩
 have S:∀v,v∈nu (f++[r]) d e->¬oo (fun v=>a v\/(w.heap.size<=v/\v<i.heap.size)) (f++[r]) d e v:=fun v I Q=>Q.2 I
 have hJ:=L;rw[Y]at hJ;obtain⟨_,_,PB⟩:=L.ae;obtain⟨_,_,Fh⟩:=L.he;have aq:=PB.lt;have aU:=Fh.lt;have a8:=L.lt;have ry:cu i r.d r.b r.e r.D.1 r.D.2/\fR r.b r.e (oo (fun v=>a v\/(w.heap.size<=v/\v<i.heap.size)) (f++[r]) d e) r.D.1 r.D.2/\fG r.D:=by
  refine⟨L,?_,Y▸y.ji⟩;rw[Y];have o:=y.own;exact⟨aL,S _ ((R _).2 (.inr (.inl rfl))),S _ ((R _).2 (.inr (.inr rfl))),fun p X B b=>W B (o.fE p X B b),fun p X v I B b=>W B (o.ij p X v I B b),fun p X B b=>W B (o.gr p X B b)⟩
 refine⟨fun v=>a v\/(w.heap.size<=v/\v<i.heap.size),⟨Q,b4 y.row fun g ah=> ?_,fun o e8=>(y.chg o e8).gU (fun v I=>N.other v (y.cJ v I) fun M=> ?_) (fun _ x=>x),by rw[ao8];exact U,y.rT,y.rU,y.rV,y.le,y.len,fun C L=> ?_,fun E nv=> ?_,C9 y.q,y.own.mono W (S _ ((R _).2 (.inl (lG.2 (.inr (.inl rfl)))))) (S _ ((R _).2 (.inl (lG.2 (.inr (.inr rfl)))))),y.ji,y.did,?_,.inl y.pG,fun v I=>.inl (y.ps v I),fun v I=> ?_,fun C L=> ?_,.inl y.fd,.inl y.oX,.inl y.oY,fun v I=>I.elim (fun hF=>aoV (y.lt v hF) N.size) (fun x=>x.2),fun v hi I=>I.elim (y.eT v hi) (fun x=>by have :=y.cJ v hi;omega),fun v hi=>aoV (y.cJ v hi) N.size⟩,⟨N.os,N.tape,N.output,N.size,fun v I hF=>N.other v I fun M=> ?_,fun v I=>I.imp id (·.1)⟩⟩
 ·obtain⟨cur,P⟩:=bt y.row ah
  exact gm g _ _ _ P (by decide) (by decide)
 ·rcases M with rfl|M
  ·exact y.eT _ I y.pG
  ·exact y.eT _ I (y.qX _ M)
 ·rcases aoZ.1 L with L|L
  ·obtain⟨D,B,c⟩:=y.vb C L
   exact⟨C9 D,B.mono W (S _ ((R _).2 (.inl (lG.2 (.inl ⟨C,L,.inl rfl⟩))))) (S _ ((R _).2 (.inl (lG.2 (.inl ⟨C,L,.inr rfl⟩))))),c⟩
  ·obtain rfl:=ao2.1 L
   exact ry
 ·by_cases aE:E<f.length
  ·rw[aqn aE];exact y.mo E aE
  ·have :E=f.length:=by simp at nv;omega
   subst this;rw[List.getElem_concat_length rfl,ar,Y];exact y.did
 ·have hm:=y.maps
  unfold nu at hm⊢;rw[apt,apf,aps];obtain⟨m1,m2,m3⟩:=aps.1 hm;have afU:∀v∈f.flatMap (fun r=>[r.b,r.e]),v<w.heap.size:=fun v I=>Az v (by unfold nu;exact apR _ I)
  have lbo:=y.lt _ y.oX;have lbe:=y.lt _ y.oY;have di:d≠e:=y.own.ne;refine⟨m1,?_,fun D au B b=> ?_⟩
  ·simp only[ape,aq8,apu,apC,apN,apg,ao3,aq9,or_false,not_or,not_false_eq_true,apT,and_true]
   refine⟨⟨aL,by omega,by omega⟩,⟨by omega,by omega⟩,di⟩
  ·rcases aoZ.1 b with b|b
   ·have :=afU D au
    simp at b;rcases b with rfl|rfl<;>omega
   ·exact m3 D au B b
 ·rcases hn with z|z
  ·rw[z]at I
   exact .inl (y.qX v I)
  ·refine .inr ⟨z v I,?_⟩
   obtain⟨cur,P⟩:=bt U I;exact aM P
 ·rcases aoZ.1 L with L|L
  ·exact⟨.inl (y.cd C L).1,.inl (y.cd C L).2.1,.inl (y.cd C L).2.2⟩
  ·obtain rfl:=ao2.1 L
   exact⟨.inr ⟨h1,a8⟩,.inr ⟨h2,aq⟩,.inr ⟨ak,aU⟩⟩
 ·rcases M with rfl|M
  ·exact hF y.pG
  ·exact hF (y.qX _ M)
end
section
open Go.RowKit Tryz
attribute [local go_sem ↓] Go.wp_at_zero Go.wp_at_succ
theorem afV{c d n r:Nat}(f:1<=c)(j:d<c)(g:r=(d+n)/c+1):n<r*c-d/\r*c<=d+n+c/\∀m,n<=m->(m<r*c-d->r=(d+m)/c+1)/\(m=r*c-d->r+1=(d+m)/c+1):=by
 have a:=Nat.div_add_mod (d+n) c;have b:=Nat.mod_lt (d+n) f;generalize(d+n)/c=q at *;generalize(d+n)%c=t at *;have e:r*c=c*q+c:=by rw[g,apV,ara,Nat.one_mul]
 obtain⟨P,h⟩:∃P,P=c*q:=⟨_,rfl⟩;rw[<-h]at a e;refine⟨by omega,by omega,fun m k=>⟨fun l=> ?_,fun o=> ?_⟩⟩
 ·rw[g]
  congr 1;have i:d+m=(d+m-P)+c*q:=by omega
  rw[i,Nat.add_mul_div_left _ _ f,Nat.div_eq_of_lt (by omega)];omega
 ·congr 1
  rw[show d+m=c*r by rw[ara];omega,Nat.mul_div_cancel_left _ f]
theorem Wo{w b E L dm cb c n rs d aA be F I D0 D}(h:kU w b E L dm cb c n rs d aA be F I D0 D)(uH:rs.length=(L+n)/E+1):
  O 191 #[Z b,A n] w fun e w'=>(∃r,e=.returned r)/\∃vr' a M D',kU w' b E L dm vr' c c.length a d aA be M I D0 D'/\a.length=(L+c.length)/E+1/\c0 F M w w':=by
 have hlen:=h.len;have hle:=h.le;obtain⟨jn,U,rfl,np,PC,xm⟩:=bp h.row;unfold maxLen at PC;have aC:=aa (And.intro h uH);clear h uH;have Kb:=aa xm;clear xm;go_enter func191,ntmps191;go_wp2_with fail
 go_loopw [1] (fun i wr=>∃k vr' a M D',i=A (k:Nat)/\kU wr b E L (.slice jn c.length U) vr' c k a d aA be M I D0 D'/\a.length=(L+k)/E+1/\c0 F M w wr) (fun i _=>c.length-(intOf i).toNat)
 case atStart=>exact⟨n,cb,rs,F,D,rfl,aC.o.1,aC.o.2,c0.cQ (aoQ _ _)⟩
 case round=>
  obtain⟨k,vr',a,M,D',rfl,f,t,cw⟩:=hrel;have eh:=f.le;obtain⟨bc,a6,N,l,dC⟩:=ga f.blk;clear bc a6;by_cases aE:k<c.length
  ·obtain⟨mn,Em,lC⟩:=afV f.rT f.rV t
   have rW:=f.rU;have uV:=f.rV;have od:a.length<=400:=by rw[t];have :=Nat.div_le_self (L+k) E;omega
   obtain⟨Da,A4,rfl,VS,hcr,Fi⟩:=bp f.mem;unfold maxLen at hcr;clear Fi;rw[aoU]at l VS;obtain⟨g,rfl⟩:=Kb.o 0 (by omega);have fO:=aa (O5 f.blk a.length (by omega) f.rU (by omega));obtain⟨m,hm⟩:∃m:Nat,m=a.length*E-L:=⟨_,rfl⟩;rw[<-hm]at fO mn lC;have HMM:=aa hm;have CE:m<=500:=by omega
   have oi:=aa lC;clear hm Em lC;have X:=aa (And.intro f (And.intro t cw));clear f t cw;go_wp2_with fail
   refine fO.o.mono ?_;rintro e v ⟨rfl,aq⟩;replace N:=af aq N;replace l:=af aq l;replace dC:=af aq dC;have ax:=aa aq;clear aq;have dE:=aa (X.o.1.af ax.o);obtain⟨s,ad⟩:∃s:Nat,s=min m c.length:=⟨_,rfl⟩;have qJ:min (m:Int) (c.length:Int)=(s:Int):=by omega
   have dO:k<s:=by omega
   have kl:s<=c.length:=by omega
   have JV:s<=m:=by omega
   have h5:(0:Int)<=(k:Int):=ao0 _;have anl:(k:Int)<=(s:Int):=by omega
   have hsc:(s:Int)<=(U:Int):=by omega
   have A5:¬(U=k):=by omega
   have p:=aa (dE.o.af (aoQ v.heap.size v).drew);have xH:=aa (show O 134 #[Z d,.slice (some (K g (k*4))) (s-k) (U-k)] v.drew _ from by
    have :=aet (w:=v.drew) (R:=fun j=>oo M a aA be j\/v.drew.heap.size<=j) p.o.q (p.o.own.mono (fun j ar=>.inl ar) (fun al=>al.elim p.o.own.ro (fun x=>by have :=p.o.lt _ p.o.oX;omega)) (fun al=>al.elim p.o.own.ES (fun x=>by have :=p.o.lt _ p.o.oY;omega))) p.o.ji (fun j ar=>.inr ar) g (k*4) (U-k) (((c.map (·.op)).drop k).take (s-k)) (by simp;omega) (by simp;omega) (by omega) (fun i hi=>by
     simp at hi;obtain⟨ct,aj,aw,cY⟩:=fH.cells p.o.row (k+i) (by omega);have CT:=p.o.chg c[k+i] (aoY _);rw[show k*4+i*4=(k+i)*4 by omega];simp only[aqo,arz,apy];exact⟨ct,aj,aw,_,cY,CT.chg⟩)
    simpa[show min (s-k) (c.length-k)=s-k by omega]using this)
   have Gz:=aM dE.o.blk;have u:=aa (show b≠aA/\b≠be from by
    obtain⟨es,aR,nm⟩:=dE.o.q.ae;obtain⟨jt,ju,kR⟩:=dE.o.q.he;have h1:=dE.o.blk;constructor
    ·rintro rfl;unfold nr at h1;rw[nm.blk]at h1;cases h1
    ·rintro rfl;unfold nr at h1;rw[kR.blk]at h1;cases h1)
   rcases(show s=m\/s<m by omega) with kR|V8
   ·have PD:True:=trivial
    go_wp2_with fail
    all_goals(try(exfalso;omega))
    rw[<-ad];clear ad qJ PD;subst kR;go_region_held3 (fun W=>W.cell? (K b 2)=some (.slice (some (H g)) c.length U)/\W.cell? (K b 4)=some (Z d)) (go_keep)
     (first |(go_at_call 134;refine xH.o.mono ?_;rintro e B ⟨⟨r,rfl⟩,⟨Y,Dc,kD,gF,jJ⟩,y⟩;replace N:=y.cell (w:=v.drew) (fun h=>h.elim u.o.1 u.o.2) N;replace l:=y.cell (w:=v.drew) (fun h=>h.elim u.o.1 u.o.2) l;replace dC:=y.cell (w:=v.drew) (fun h=>h.elim u.o.1 u.o.2) dC;have z:=aa (p.o.done y (by omega) kl (D':=(Y,Dc)) kD gF jJ);clear kD gF jJ y))
    obtain⟨iZ,P,mu⟩:=z.o;clear z;rw[aoU]at P;have z:=aa P;have iR:=aa (show c0 F iZ w B from X.o.2.2.trans (mu.before ax.o.drew));clear mu;have fc:=aa (show tP 0 B (.slice Da a.length A4) (a.map (·.d)) from P.mem);have afW:=aa (show J B B.drew from(aoQ _ B).drew);have HH:=aa (OK (z.o.af afW.o).q);have afX:=World.new_ne B (K b 3) l;have cz:=aa P.blk;have Dd:=aa (show some b≠(Value.slice Da a.length A4).ownBlock from fun e=>by
     obtain⟨cur,t⟩:=bt fc.o e.symm;exact absurd (bz t cz.o) (by decide))
    have anm:=aM P.blk;clear P;have PE:=aa (show(a.map (·.d)).length=a.length from aoU _);go_wp2_with fail
    go_region_law (first
      |(go_simp;go_at_call 213;refine HH.o.mono ?_;rintro e C ⟨⟨d3,Wp,Wq,rfl,xM,AU,AV,AW,AX⟩,a8⟩;have Q:=Hq.o (mq a8);clear a8;replace N:=af Q N;replace l:=af Q l;replace dC:=af Q dC;have mM:=Q.size;have De:b<C.heap.size:=(by omega);have Wr:=World.new_ne C (K b 3) l;have ez:=aa (bj cz.o Q);have ht:=aa (show tP 0 C (.slice Da a.length A4) (a.map (·.d)) from c5 fc.o Q);have bK:=aa Q;clear Q;have zh:=aa (And.intro xM (And.intro AU (And.intro AV (And.intro AW AX))));clear xM AU AV AW AX;have bM:=aa (show J C (C.alloc (.cells #[Z d3] 101)) from(aoQ _ C).alloc (aoP _) _);dsimp only)
      |(refine xi iD 1 8 200 101 (.pointer none) (by kernel_rfl) underlying200 rfl (by omega) (fun _=>rfl) (by rfl) (.tmp 47) (.tmp 53) (by rfl) 0 (.slice Da a.length A4) (a.map (fun x:lh=>x.d)) (by rfl) (c5 ht.o bM.o) C.heap.size 1 d3 (by rfl) (O4 (VK (bL C _))) (O3 d3) (by rw[aoU];omega) (by rw[aoU];unfold maxLen;omega) (aoR _) ?_;intro v4 w4 hj dB gp;have eE:=aa hj;have kF:=aa dB;have jw:=aa gp;have HI:w4.heap[b]?=C.heap[b]?:=((dB.block b (by simp;omega) (Dd.o)).trans (hV _ _ De));have gn:=aa (HI.trans ez.o);clear HI hj dB gp;obtain⟨a4,kc,wk,q0,ta,ub⟩:=bp eE.o;rw[PE.o]at wk;subst wk;clear q0 ta ub;replace l:=(ga gn.o).2.2.2.1;have vH:=cS gn.o 3))
    all_goals go_wp2
    all_goals go_roundw
    all_goals first
     |(simp[intOf];omega)
     |(
      have EZ:aP (fun k=>k=b\/(Value.slice Da a.length A4).ownBlock=some k) B w4:=(aP.cQ (bK.o.trans (bM.o.mono bK.o.size))).trans (aP.rN kF.o fun k hk=>.inr hk);have PF:=EZ.trans (aP.lf (w:=w4) (g:=b) (o:=3) (.slice a4 (a.length+1) kc) (.inl rfl));have tb:(Value.slice a4 (a.length+1) kc).ownBlock≠some b:=fun e=>by
       obtain⟨cur,t⟩:=bt eE.o e;exact absurd (bz t gn.o) (by decide)
      have Fj:=zh.o.1.kept ((aP.cQ bM.o).trans ((aP.rN kF.o (S:=fun k=>k=b\/(Value.slice Da a.length A4).ownBlock=some k) fun k hk=>.inr hk).trans (aP.lf (w:=w4) (g:=b) (o:=3) (.slice a4 (a.length+1) kc) (.inl rfl)))) (fun k hk=>by
       rcases hk with rfl|hk
       ·exact⟨_,_,_,ez.o,by decide⟩
       ·obtain⟨cur,t⟩:=bt ht.o hk
        exact⟨_,_,_,t,by decide⟩)
      obtain⟨aoj,O9,KX⟩:=z.o.K0 PF (vr':=.slice a4 (a.length+1) kc) (r:=⟨d3,Wp,Wq,(Y,Dc)⟩) (OW gn.o) (by
       have :=iW eE.o tb (o:=3) (.slice a4 (a.length+1) kc);unfold tP;rw[aoW];exact this) (jw.o.mono (aoS bK.o.size bM.o.size)) Fj rfl zh.o.2.1 zh.o.2.2.1 zh.o.2.2.2.1 zh.o.2.2.2.2 HMM.o.symm
      exact⟨s,_,a++[⟨d3,Wp,Wq,(Y,Dc)⟩],aoj,(Y,Dc),rfl,O9,by rw[aoW];exact(oi.o s (by omega)).2 rfl,iR.o.trans KX⟩)
   ·have PD:True:=trivial
    go_wp2_with fail
    all_goals(try(exfalso;omega))
    rw[<-ad];clear ad qJ PD;go_region_held3 (fun W=>W.cell? (K b 2)=some (.slice (some (H g)) c.length U)/\W.cell? (K b 4)=some (Z d)) (go_keep)
     (first |(go_at_call 134;refine xH.o.mono ?_;rintro e B ⟨⟨r,rfl⟩,⟨Y,Dc,kD,gF,jJ⟩,y⟩;replace N:=y.cell (w:=v.drew) (fun h=>h.elim u.o.1 u.o.2) N;replace l:=y.cell (w:=v.drew) (fun h=>h.elim u.o.1 u.o.2) l;replace dC:=y.cell (w:=v.drew) (fun h=>h.elim u.o.1 u.o.2) dC;have z:=aa (p.o.done y (by omega) kl (D':=(Y,Dc)) kD gF jJ);clear kD gF jJ y))
    obtain⟨iZ,P,mu⟩:=z.o;clear z;have z:=aa P;have iR:=aa (show c0 F iZ w B from X.o.2.2.trans (mu.before ax.o.drew));clear mu;go_wp2;go_roundw
    case rel=>exact⟨s,_,a,iZ,(Y,Dc),rfl,z.o,(oi.o s (by omega)).1 V8,iR.o⟩
    case measure=>simp[intOf];omega
  ·have hL:k=c.length:=by omega
   subst hL;have X:=aa (And.intro f (And.intro t cw));clear f t cw l dC;go_wp2;go_end0
   exact⟨⟨_,rfl⟩,vr',a,M,D',X.o.1,X.o.2.1,X.o.2.2⟩
def A6 (a:Array Value) (o:Nat):List Value->Array Value
 |[]=>a
 |v::r=>A6 (a.setIfInBounds o v) (o+1) r
theorem Ws:∀(b:List Value) (a:Array Value) (o:Nat),(A6 a o b).size=a.size
 |[],_,_=>rfl
 |v::r,a,o=>by
  unfold A6;rw[Ws r,Array.size_setIfInBounds]
theorem PG:∀(c:List Value) (a:Array Value) (o j:Nat),(A6 a o c)[j]?=if o<=j/\j<o+c.length/\j<a.size then c[j-o]? else a[j]?
 |[],a,o,j=>by
  unfold A6;rw[if_neg (by simp;omega)]
 |v::r,a,o,j=>by
  unfold A6;rw[PG r,Array.size_setIfInBounds,apd];by_cases d:j=o
  ·subst d
   rw[if_neg (by omega)];by_cases b:j<a.size
   ·rw[if_pos ⟨aoP _,by omega,b⟩,Nat.sub_self,aqj,if_pos rfl,if_pos b]
    rfl
   ·rw[if_neg (by omega),aqj,if_pos rfl,if_neg b]
    exact(Array.getElem?_eq_none (by omega)).symm
  ·by_cases b:o+1<=j/\j<o+1+r.length/\j<a.size
   ·rw[if_pos b,if_pos ⟨by omega,by omega,b.2.2⟩]
    obtain⟨k,f⟩:∃k,j-o=k+1:=⟨j-o-1,by omega⟩;rw[f,show j-(o+1)=k by omega];rfl
   ·rw[if_neg b,if_neg (by omega),aqj,if_neg (fun e=>d e.symm)]
theorem Wt{g:Nat}{t:TypeId}:∀(b:List Value) (o:Nat) (w:World) (a:Array Value),w.heap[g]?=some (.cells a t (0,0))->(w.setCells g o b).heap[g]?=some (.cells (A6 a o b) t (0,0))
 |[],_,_,_,h=>h
 |v::r,o,w,a,h=>Wt r (o+1) (w.setCell (K g o) v) (a.setIfInBounds o v) (setRow h)
theorem Wu{g:Nat}:∀(a:List Value) (o:Nat) (W:World),aP (fun k=>k=g) W (W.setCells g o a)
 |[],_,W=>aP.cQ (aoQ _ _)
 |v::r,o,W=>(aP.lf (S:=fun k=>k=g) (g:=g) (o:=o) v rfl).trans (Wu r (o+1) (W.setCell (K g o) v))
end
section
open Go.RowKit Tryz
variable {a:World}
def Pow (w:World):Prop:=Lib.TabIs prog w "internal/strconv.uint64pow10" .u64 Lib.pow10Tab
theorem Pow.af{w}{w':World}(h:Pow w)(a:Below w.heap.size w w'):Pow w':=Lib.tabBelow_of_tabIs h w' a
theorem afY(n:Int)(b:ka n)(h:Pow a):O 206 #[A n] a fun e c=>e=.returned (.string (yG n))/\J a c:=
 (strconv_Itoa n b.1 b.2 a h).mono fun e c d=>by
  obtain⟨f,k,g,i⟩:=d;exact⟨f,by rw[i];exact Lib.below_grow _ a (aoP _) k g⟩
theorem afZ(b:ByteArray)(l:List ByteArray):(⟨(Lib.join (l.map (·.data.toList)) b.data.toList).toArray⟩:ByteArray)=lF b l:=by
 cases l with
 |nil=>rfl
 |cons x l=>
  apply aqG;apply Array.toList_inj.1;simp only[apb,Lib.join_cons,lF];have :∀(l:List ByteArray) (a:ByteArray),(l.foldl (fun s y=>(s++b)++y) a).data.toList=a.data.toList++Lib.joinTail b.data.toList (l.map (·.data.toList)):=by
   intro l
   induction l with
   |nil=>intro a;simp[Lib.joinTail]
   |cons y l ih=>
    intro a;rw[aqr,ih];simp[Lib.joinTail,ByteArray.data_append,apf]
  rw[this]
theorem Wv(l:List ByteArray):(l.flatMap uR).length=l.length:=by unfold uR;rw[<-List.map_eq_flatMap];simp
theorem PH{B l}{g b:Nat}(h:py B a (.slice (some (H g)) l.length b) l)(j:Nat)(x:ByteArray)(c:l[j]?=some x):a.cell? (K g (0+j))=some (.string x):=by
 obtain⟨d,rfl⟩:=aqv.1 c;have e:=aqE h j (by omega);rw[apF,e];have :l.flatMap uR=l.map Value.string:=by unfold uR;exact List.map_eq_flatMap.symm
 rw[this];simp[d]
theorem PI{B v l}(h:py B a v l)(d:ByteArray)(p:l.length<=10000)(k:(lF d l).size<=140737488355328):
  O 168 #[v,.string d] a fun e f=>e=.returned (.string (lF d l))/\J a f:=by
 obtain⟨b,c,rfl,m,q,n⟩:=bp h;cases l with
 |nil=>exact(strings_Join_none b c d a).mono fun e f i=>⟨i.1,by rw[i.2];exact aoQ _ _⟩
 |cons x l=>
  obtain⟨g,rfl⟩:=n 0 (by simp);have j:=afZ d (x::l);have o:(Lib.join ((x::l).map (·.data.toList)) d.data.toList).length<=140737488355328:=by
   have :=congrArg (fun z:ByteArray=>z.data.size) j;simp only[ap8]at this;rw[this];exact k
  have :=strings_Join g 0 c (x::l) d a (PH h) (aoT h g rfl).2 (by omega) m o;rw[j]at this;exact this
def q2 (l:List ByteArray):List ByteArray:=((l.map (·.data.toList)).mergeSort fun x y=>decide (x<=y)).map fun x=>⟨x.toArray⟩
theorem PJ(l:List ByteArray):(q2 l).length=l.length:=by unfold q2;simp
theorem af0(l:List ByteArray):(l.map (·.data.toList)).map (fun x=>(⟨x.toArray⟩:ByteArray))=l:=by
 rw[apI];refine(aqq (g:=id) fun a _=> ?_).trans (List.map_id l);rfl
theorem af1(a b c:List UInt8):decide (a<=b)=true->decide (b<=c)=true->decide (a<=c)=true:=fun d e=>by
 simp only[decide_eq_true_eq]at *;exact List.le_trans d e
theorem af2(a b:List UInt8):(decide (a<=b)||decide (b<=a))=true:=by
 simp only[Bool.or_eq_true,decide_eq_true_eq];exact List.le_total a b
theorem Ww(l:List ByteArray):(q2 l).Perm l:=by
 unfold q2;have :=(aqy (l.map (·.data.toList)) (fun x y=>decide (x<=y))).map (fun x=>(⟨x.toArray⟩:ByteArray));rw[af0]at this;exact this
theorem Wx(l:List ByteArray):(q2 l).Pairwise fun a b=>a.data.toList<=b.data.toList:=by
 unfold q2;rw[apB];refine(ars (le:=fun x y=>decide (x<=y)) af1 af2 (l.map (·.data.toList))).imp fun{a b} h=> ?_
 simpa using h
theorem af3{a b:ByteArray}(c:a.data.toList<=b.data.toList)(d:b.data.toList<=a.data.toList):a=b:=by
 apply aqG;apply Array.toList_inj.1;exact List.le_antisymm c d
theorem Wy{l m:List ByteArray}(c:l.Perm m)(d:m.Pairwise fun a b=>a.data.toList<=b.data.toList):q2 l=m:=
 List.Perm.eq_of_pairwise (le:=fun a b=>a.data.toList<=b.data.toList) (fun a b _ _ e f=>af3 e f) (Wx l) d ((Ww l).trans c)
theorem af4(l m:List ByteArray)(a:l.Perm m):q2 l=q2 m:=Wy (a.trans (Ww m).symm) (Wx m)
theorem Wz:∀(a b:List UInt8),Op.bytesLess b a=false->a<=b
 |[],b,_=>List.nil_le b
 |x::a,[],h=>by simp[Op.bytesLess]at h
 |x::a,y::b,h=>by
  simp[Op.bytesLess,UInt8.lt_iff_toNat_lt,UInt8.le_iff_toNat_le]at h;rw[List.cons_le_cons_iff];by_cases e:x=y
  ·subst e
   exact .inr ⟨rfl,Wz a b (h.2 rfl)⟩
  ·refine .inl ?_
   rw[UInt8.lt_iff_toNat_lt];have :x.toNat≠y.toNat:=fun c=>e (UInt8.toNat_inj.1 c)
   omega
theorem af5(B:Nat)(W:World)(v:Value)(l:List ByteArray)(h:py B W v l)(hl:l.length<=10000):
  O 188 #[v] W fun e f=>(∃r,e=.returned r)/\py B f v (q2 l)/\W.grownBy f v.ownBlock:=by
 obtain⟨a,c,e,jk,dh,w⟩:=bp h;cases l with
 |nil=>
  subst e;refine(slices_Sort_string_none a c W).mono fun e f o=> ?_
  obtain⟨b,rfl⟩:=o;have z:q2 []=[]:=by simp[q2]
  exact⟨⟨_,b⟩,by rw[z];exact h,rfl,rfl,rfl,aoP _,fun _ _ _=>rfl⟩
 |cons x l=>
  obtain⟨g,rfl⟩:=w 0 (by simp);subst e;rcases h.2 with⟨b,_⟩|⟨g',cap,p,e,C,m,D,E,F,Tj⟩
  ·cases b
  ·cases e
   have q:((x::l).map (·.data.toList)).length=(x::l).length:=by simp
   have I:Go.Sort.Holds encStr W g 0 ((x::l).map (·.data.toList)).toArray:=fun j s=>by
    have L:j<(x::l).length:=by simpa using s
    refine⟨?_,by simp[World.frozen?,m]⟩;rw[PH h j (x::l)[j] (by simp[L])];rw[getElem!_pos _ j s];simp only[List.getElem_toArray,apy]
   have t:=slices_Sort_string g 0 c ((x::l).map (·.data.toList)) W I (aM m) (by rw[q];omega);rw[q]at t;refine t.mono fun e f o=> ?_
   obtain⟨b,n,M,rfl⟩:=o;generalize u:(((x::l).map (·.data.toList)).mergeSort fun x y=>decide (x<=y))=d;have N:d.length=(x::l).length:=by rw[<-u];simp
   have P:q2 (x::l)=d.map fun x=>⟨x.toArray⟩:=by unfold q2;rw[u]
   have Q:=aM m;have R:(Go.Sort.grow (Go.Sort.putRow encStr (Go.Sort.ahead W n) g 0 d.toArray) M).heap[g]?=some (.cells (Go.Sort.putCells encStr 0 d.toArray p) 9 (0,0)):=by
    obtain⟨_,S⟩:=ao1.1 m;simp[Go.Sort.grow,Go.Sort.putRow,Go.Sort.mapBlock,Go.Sort.ahead,Array.getElem?_append,Array.getElem_modify,S,Go.Sort.onCells,Q]
   refine⟨⟨_,b⟩,⟨?_,.inr ⟨g,c,_,?_,C,R,?_,E,?_,?_⟩⟩,rfl,rfl,rfl,?_,?_⟩
   ·rw[Wv];simp
   ·rw[PJ]
   ·rw[PJ];exact D
   ·simp only[Go.Sort.putCells,Array.size_mapIdx];exact F
   ·rw[PJ,P]
    apply ap6;intro i;have kb:(x::l).length<=p.size:=by omega
    by_cases hi:i<(x::l).length
    ·have U:i<p.size:=by omega
     have X:i<d.length:=by omega
     rw[List.getElem?_take_of_lt (by omega)];simp only[Go.Sort.putCells];have Y:((d.map fun x=>(⟨x.toArray⟩:ByteArray)).flatMap uR)=d.map encStr:=by
      unfold uR;rw[<-List.map_eq_flatMap,apI];rfl
     rw[Y];simp[U,X]
    ·have aL:((d.map fun x=>(⟨x.toArray⟩:ByteArray)).flatMap uR).length=(x::l).length:=by rw[Wv,aoU,N]
     rw[aqI (by rw[ao7];omega),aqI (by omega)]
   ·simp[Go.Sort.grow,Go.Sort.putRow,Go.Sort.mapBlock,Go.Sort.ahead]
   ·intro k hk br
    have hkg:g≠k:=fun e=>br (by rw[<-e];rfl)
    simp[Go.Sort.grow,Go.Sort.putRow,Go.Sort.mapBlock,Go.Sort.ahead,Array.getElem?_append,Array.getElem_modify,hkg,hk]
end
section
open Go.RowKit Go.Sort Tryz
attribute [local go_sem ↓] Go.wp_at_zero Go.wp_at_succ
theorem WA(w:World)(a b c:Obj):(((w.alloc a).alloc b).alloc c).drew=grow (w.drewN 1) #[a,b,c]:=by
 rw[alloc_eq_grow,alloc_eq_grow,alloc_eq_grow,grow_grow,grow_grow];rfl
theorem af6(c d f i:Int)(w:World):
  O 139 #[.agg #[A c,A d],.agg #[A f,A i]] w fun e j=>e=.returned (A (nQ (c,d) (f,i)))/\∃q k,j=grow (w.drewN q) k:=by
 go_enter func139,ntmps139;go_wp2_with fail
 go_region_held3 (fun W=>W.cell? (V w 0)=some (A c)/\W.cell? (V w 1)=some (A d)/\W.cell? (H (w.heap.size+1))=some (A f)/\W.cell? (K (w.heap.size+1) 1)=some (A i)) (go_keep)
  (first
   |(go_at_call 166;refine(OL _ _ _).mono ?_;rintro e j ⟨rfl,rfl⟩)
   |(go_at_call 165;refine(OM (g:=w.heap.size+2) (a:=uU c f) (b:=uU d i) ?_ ?_).mono ?_;(exact(E1 _ _ _ _ _ _).1);(exact(E1 _ _ _ _ _ _).2);rintro e j ⟨rfl,rfl⟩))
 all_goals go_wp2
 all_goals go_ret
 all_goals exact⟨rfl,1,_,WA _ _ _ _⟩
def eK (x y:PId):Bool:=decide (nQ x y<0)
theorem q3(x y:PId):eK x y=true↔x.1<y.1\/(x.1=y.1/\x.2<y.2):=by
 unfold eK nQ G9 uU;simp only[decide_eq_true_eq];by_cases a:x.1<y.1
 ·simp[a]
 ·by_cases c:y.1<x.1
  ·simp[a,c];omega
  ·have :x.1=y.1:=by omega
   by_cases b:x.2<y.2
   ·simp[this,b]
   ·by_cases d:y.2<x.2<;>simp[this,b,d]
end
section
open Go.RowKit Go.Sort Go.Shelf Tryz
variable {a d e:Nat}{b:World}
theorem WB {α:Type} {f:α->List Value} {k:Nat} (a:∀x,(f x).length=k):∀(l:List α) (q:Nat) (b:q<l.length) (j:Nat),j<k->(l.flatMap f)[q*k+j]?=(f l[q])[j]?
 |x::l,0,_,j,c=>by
  rw[ape,aqU (by rw[a];omega)];simp
 |x::l,q+1,b,j,c=>by
  have e:(q+1)*k=q*k+k:=by rw[apV,Nat.one_mul]
  rw[ape,aqV (by rw[a];omega),a,show(q+1)*k+j-k=q*k+j by omega];exact WB a l q (by simpa using b) j c
theorem WC {α:Type} [Inhabited α] (a:α->List Value) (k:Nat) (c:∀x,(a x).length=k) (d:Array α):(flatK a k d).toList=d.toList.flatMap a:=by
 apply ap6;intro t;have m:(d.toList.flatMap a).length=d.size*k:=by rw[qF a k c];simp
 by_cases b:t<d.size*k
 ·have f:0<k:=by
   rcases Nat.eq_zero_or_pos k with h|h
   ·subst h;simp at b
   ·exact h
  have g:t/k<d.size:=Nat.div_lt_of_lt_mul (by rw[ara];exact b);have e:=get_flatK a k d t b;have i:=WB c d.toList (t/k) (by simpa using g) (t%k) (Nat.mod_lt _ f);rw[show t/k*k+t%k=t by rw[ara];exact Nat.div_add_mod t k]at i;rw[i];have j:t<(flatK a k d).size:=by simpa using b
  rw[getElem!_pos _ t j,getElem!_pos d (t/k) g]at e;have l:t%k<(a d[t/k]).length:=by rw[c];exact Nat.mod_lt _ f
  rw[getElem!_pos _ (t%k) l]at e;simp only[Array.getElem?_toList,Array.getElem_toList];rw[ard j,apH l,e]
 ·rw[aqI (by simpa using b),aqI (by omega)]
theorem WD {α:Type} [Inhabited α] (f:α->List Value) (k:Nat) (u:∀x,(f x).length=k) {t:TypeId} {l:List α} (h:b.ownsRow e t k (.slice (some (H a)) l.length d) l.length (l.flatMap f)) (m:Nat) (g:Array α) (q:g.size=l.length) (n:Array Obj):
  (sortWorldK f k b a 0 m g n).ownsRow e t k (.slice (some (H a)) l.length d) l.length (g.toList.flatMap f)/\b.grownBy (sortWorldK f k b a 0 m g n) (some a):=by
 obtain⟨P,o|⟨Q,R,v,o,z,w,y,B,C,S⟩⟩:=h
 ·cases o.1
 simp only[apo,apD,apS,and_true,true_and]at o;obtain⟨rfl,rfl⟩:=o;have D:=aM w;have E:(g.toList.flatMap f).length=l.length*k:=by rw[qF f k u];simp[q]
 have F:(sortWorldK f k b a 0 m g n).heap[a]?=some (.cells (putCells id 0 (flatK f k g) v) t (0,0)):=by
  unfold sortWorldK putRowK putRow;rw[heap_grow_old _ _ (by simp[mapBlock,Sort.ahead];exact D)];simp[mapBlock,Sort.ahead,aqw,w,onCells]
 have I:∀j,j<b.heap.size->j≠a->(sortWorldK f k b a 0 m g n).heap[j]?=b.heap[j]?:=fun j r s=>by
  unfold sortWorldK putRowK putRow;rw[heap_grow_old _ _ (by simp[mapBlock,Sort.ahead];exact r)];simp[mapBlock,Sort.ahead,aqw,ao5 s]
 have L:b.heap.size<=(sortWorldK f k b a 0 m g n).heap.size:=by
  unfold sortWorldK putRowK putRow grow;simp[mapBlock,Sort.ahead]
 refine⟨⟨E,.inr ⟨a,d,_,rfl,z,F,y,B,by simp[putCells,C],?_⟩⟩,⟨rfl,rfl,rfl,L,fun j r s=>I j r (fun c=>s (by rw[c]))⟩⟩;have U:l.length*k<=d*k:=apJ k y;apply ap6;intro i;by_cases p:i<l.length*k
 ·rw[aql,if_pos p]
  have M:i<(flatK f k g).size:=by simp[q];exact p
  rw[<-WC f k u g];have N:i<v.size:=by omega
  simp only[putCells,Array.getElem?_toList,Array.getElem?_mapIdx];rw[ard N,ard M];simp[q,p]
 ·rw[aql,if_neg p,aqI (by omega)]
theorem WE {α:Type} [Inhabited α] (f:α->List Value) (k:Nat) (o:∀x,(f x).length=k) {t:TypeId} {l:List α} (h:b.ownsRow d t k (.slice (some (H a)) l.length e) l.length (l.flatMap f)):HoldsK f k b a 0 l.toArray/\a<b.heap.size:=by
 have g:∃i,b.heap[a]?=some (.cells i t (0,0)):=bt h rfl;obtain⟨i,g⟩:=g;refine⟨fun j m=>⟨?_,?_⟩,aM g⟩
 ·have n:j<l.length*k:=by simpa using m
  have p:=aqE h j n;rw[apF];have c:=WC f k o l.toArray;simp only[List.toList_toArray]at c;rw[p,<-c,getElem!_pos _ j m];simp[n]
 ·exact cS g _
theorem zp(x y:PId):eK x y=false↔¬(x.1<y.1\/(x.1=y.1/\x.2<y.2)):=by
 rw[<-q3];cases eK x y<;>simp
theorem PK{x y:PId}(c:eK x y=false)(d:eK y x=false):x=y:=by
 have a:=(zp x y).1 c;have b:=(zp y x).1 d;obtain⟨e,f⟩:=x;obtain⟨g,h⟩:=y;simp only[aqC]at *;omega
theorem Lo:SWO (ltOf nQ):=
 ⟨fun x=>(zp x x).2 (by omega),fun x y z c d=>(q3 x z).2 (by
  have a:=(q3 x y).1 c;have b:=(q3 y z).1 d;omega),fun x y z c d=>(zp x z).2 (by
  have a:=(zp x y).1 c;have b:=(zp y z).1 d;omega)⟩
def mR (l:List PId):Prop:=l.Pairwise fun x y=>eK x y=true
theorem af7(args:Array Value)(w:World):(callFunc 139 args).run prog w=.ok (.enter 139 args) w:=
 enters_of func139 (by kernel_rfl) rfl args w
theorem af8{l:List PId}(d:l.Nodup)(e:∀i j (a:i<l.length) (b:j<l.length),i<j->eK l[j] l[i]=false):mR l:=by
 unfold mR;rw[apM];intro i j a b c;cases h:eK l[i] l[j]with
 |true=>rfl
 |false=>
  exfalso;have :=PK h (e i j a b c);have f:=apM.1 d i j a b c;exact f this
theorem af9{u l}(h:gu a b u l)(C:l.Nodup)(Y:l.length<=10000):
  O 163 #[u,.func (.func 139) #[] #[]] b fun e q=>e=.returned (.tuple #[])/\∃r,r.Perm l/\mR r/\gu a q u r/\b.grownBy q u.ownBlock:=by
 by_cases D:l.length=0
 ·obtain⟨d,c,rfl,_,_,_⟩:=bp h
  refine(ads d l.length c _ (by omega) b).mono ?_;rintro e q ⟨rfl,o⟩;refine⟨rfl,l,.refl _,?_,c5 h o,⟨o.os,o.tape,o.output,o.size,fun k E _=>o.block k E⟩⟩;have :l=[]:=aqg D;subst this;exact List.Pairwise.nil
 ·obtain⟨d,c,rfl,jk,dh,F⟩:=bp h
  obtain⟨g,rfl⟩:=F 0 (by omega);obtain⟨I,L⟩:=WE lL 2 (fun _=>rfl) h;have s:=AnyQ.slices_SortFunc sortIds 2 isAgg36 sizeOf36 lL (fun _=>rfl) (fun x v t=>by simp[lL]at t;rcases t with rfl|rfl<;>rfl) nQ Lo 139 #[] g 0 c l.toArray b af7 (fun m w dk _ x y=>af6 x.1 x.2 y.1 y.2 _) I L (by simp;omega);change O 163 _ _ _ at s;simp only[ap8]at s;refine s.mono ?_;rintro e q ⟨rfl,f,n,w,M,N,rfl⟩;obtain⟨p,_,P⟩:=M;simp at p;obtain⟨Q,R⟩:=WD lL 2 (fun _=>rfl) h n f p w;have z:f.toList.Perm l:=by
   have S:(f.extract 0 l.length).toList=f.toList:=by rw[<-p];simp
   have U:(l.toArray.extract 0 l.length).toList=l:=by simp
   rwa [S,U]at P
  refine⟨rfl,f.toList,z,af8 (z.nodup_iff.2 C) (fun i j W B X=> ?_),?_,R⟩
  ·have :=N i j (aoR _) X (by simpa[p]using B)
   rw[getElem!_pos f j (by simpa using B),getElem!_pos f i (by simpa using W)]at this;simpa[ltOf,eK]using this
  ·unfold gu
   rw[show f.toList.length=l.length by simp[p]];exact Q
end
end Go.Proofs.YtnkpogjiiohapaaGreatDoor
