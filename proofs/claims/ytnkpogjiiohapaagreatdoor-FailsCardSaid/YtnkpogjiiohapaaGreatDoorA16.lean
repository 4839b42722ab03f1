/- Our own text. -/
import Derived.Test.YtnkpogjiiohapaaGreatDoorA15
set_option linter.unusedSimpArgs false
set_option linter.unusedVariables false
set_option maxRecDepth 1000000
set_option maxHeartbeats 4000000
namespace Go.Proofs.YtnkpogjiiohapaaGreatDoor
section
open Go.RowKit Tryz
variable {a i:Nat->Prop}{b c d m n r s:Nat}{f l:Value}{h q:World}{j:List ar}{k:cX}
def pX (w:World) (I:Nat->Prop) (c:Value):lg->Prop
 |.inl l=>c=.iface 197 (.agg #[.bool l])
 |.inr (.inl (x,b))=>c=.iface 179 (.agg #[A x.1,A x.2,A b.1,A b.2])
 |.inr (.inr (.inl (o,a,x,d,e)))=>∃s,c=.iface 182 (.agg #[A o.1,A o.2,.string a,A x.1,A x.2,A d.1,A d.2.1,A d.2.2,s])/\eE w s e/\∀k,s.ownBlock=some k->I k
 |.inr (.inr (.inr (o,a,x,e)))=>∃s,c=.iface 184 (.agg #[A o.1,A o.2,.string a,A x.1,A x.2,s])/\eE w s e/\∀k,s.ownBlock=some k->I k
theorem pX.chg{w q}(h:pX w a f q):vw w f q:=by
 rcases q with l|⟨x,b⟩|⟨o,d,x,i,g⟩|⟨o,d,x,g⟩
 ·exact h
 ·exact h
 ·obtain⟨s,e,c,_⟩:=h;exact⟨s,e,c⟩
 obtain⟨s,e,c,_⟩:=h;exact⟨s,e,c⟩
theorem pX.ft{w c q}(d:pX w a c q)(f:∀k,a k->h.heap[k]?=w.heap[k]?)(p:∀k,a k->i k):pX h i c q:=by
 rcases q with l|⟨x,b⟩|⟨o,r,x,u,t⟩|⟨o,r,x,t⟩
 ·exact d
 ·exact d
 ·obtain⟨s,e,m,j⟩:=d;exact⟨s,e,ca m fun g n=>f g (j g n),fun k f=>p k (j k f)⟩
 obtain⟨s,e,m,j⟩:=d;exact⟨s,e,ca m fun g n=>f g (j g n),fun k f=>p k (j k f)⟩
theorem mT.append:∀{l m:List nU} {D a b:cX},mT D l a->mT a m b->mT D (l++m) b
 |[],m,D,a,b,h,k=>by
  have e:a=D:=h;subst e;exact k
 |x::l,m,D,a,b,⟨c,d,f⟩,k=>⟨c,d,f.append k⟩
abbrev nA:=cX×List nU
def Bz (B:nA) (l:List nU) (D:cX):Prop:=mT B.1 (B.2++l) D
theorem Bz.append{B l m a b}(h:Bz B l a)(k:mT a m b):Bz B (l++m) b:=by
 unfold Bz at *;rw[<-aqs];exact mT.append h k
structure lj where
 d:Nat
 b:Nat
 e:Nat
 D:cX
variable {e:List lj}
def nY (a:List lj) (c d:Nat):List Nat:=a.flatMap (fun r=>[r.b,r.e])++[c,d]
def oz (F:Nat->Prop) (a:List lj) (b c:Nat) (k:Nat):Prop:=F k/\k∉nY a b c
structure kW (w:World) (ab sp su:Nat) (dm cf:Value) (ops:List ar) (n:Nat) (rs:List lj) (d aB be:Nat) (F I:Nat->Prop) (D0:nA) (D:cX):Prop where
 blk:nX w ab sp su dm cf d
 row:fN 0 w dm ops
 chg:∀o∈ops,pX w I (.iface o.t o.v) o.op.chg
 mem:um 0 w cf (rs.map (·.d))
 r3:1<=sp
 r4:sp<=50
 r5:su<sp
 le:n<=ops.length
 len:ops.length<=300
 vA:∀r∈rs,cz w r.d r.b r.e r.D.1 r.D.2/\fM r.b r.e (oz F rs aB be) r.D.1 r.D.2/\fH r.D
 mu:∀j (au:j<rs.length),Bz D0 ((ops.map (·.op)).take (j*sp-su)) rs[j].D
 q:cz w d aB be D.1 D.2
 own:fM aB be (oz F rs aB be) D.1 D.2
 jl:fH D
 did:Bz D0 ((ops.map (·.op)).take n) D
 maps:(nY rs aB be).Nodup
 pY:F ab
 pO:∀k,dm.ownBlock=some k->F k
 re:∀k,cf.ownBlock=some k->F k
 b3:∀r∈rs,F r.d/\F r.b/\F r.e
 fd:F d
 pc:F aB
 pd:F be
 lt:∀k,F k->k<w.heap.size
 eC:∀k,I k->¬F k
 cx:∀k,I k->k<w.heap.size
theorem cz.apart{j l}(f:cz h d b c j l)(m:fM b c a j l)(o:q.heap[d]?=h.heap[d]?)(r:q.heap[b]?=h.heap[b]?)(s:q.heap[c]?=h.heap[c]?)(n:∀k,a k->q.heap[k]?=h.heap[k]?):cz q d b c j l:=by
 obtain⟨t,u,v⟩:=f.af;obtain⟨w,x,y⟩:=f.he;refine⟨by rw[o];exact f.ai,⟨t,u,v.gJ r⟩,⟨w,x,y.gJ s⟩,fun p g=> ?_,fun p g=> ?_⟩
 ·exact(f.hk p g).gJ (fun e i=>n e (m.fG p g e i)) (fun k z e i=>n e (m.ij p g k z e i))
 exact(f.aF p g).gJ (fun e i=>n e (m.fX p g e i))
theorem lH{a:List lj}:c∈nY a d m↔(∃r∈a,c=r.b\/c=r.e)\/c=d\/c=m:=by
 unfold nY;simp[aqq]
theorem kW.gw{sp su D0 D}{w:World}(p:kW h b sp su f l j c e d m n a i D0 D)(B:h.heap.size<=w.heap.size)(v:∀k,a k->w.heap[k]?=h.heap[k]?)(E:∀k,i k->w.heap[k]?=h.heap[k]?):kW w b sp su f l j c e d m n a i D0 D:=by
 refine⟨?_,ca p.row fun g y=>v g (p.pO g y),fun o F=>(p.chg o F).ft E (fun _ x=>x),ca p.mem fun g y=>v g (p.re g y),p.r3,p.r4,p.r5,p.le,p.len,fun r C=> ?_,p.mu,?_,p.own,p.jl,p.did,p.maps,p.pY,p.pO,p.re,p.b3,p.fd,p.pc,p.pd,fun k hF=>ap3 (p.lt k hF) B,p.eC,fun k hF=>ap3 (p.cx k hF) B⟩
 ·unfold nX;rw[v _ p.pY];exact p.blk
 ·obtain⟨t,s,u⟩:=p.vA r C;obtain⟨I,L,M⟩:=p.b3 r C;exact⟨t.apart s (v _ I) (v _ L) (v _ M) fun k z=>v k z.1,s,u⟩
 exact p.q.apart p.own (v _ p.fd) (v _ p.pc) (v _ p.pd) fun k z=>v k z.1
theorem kW.ae{w n D0 D}{w':World}(h:kW w b c d f l j n e m r s a i D0 D)(g:J w w'):kW w' b c d f l j n e m r s a i D0 D:=h.gw g.size (fun k o=>g.block k (h.lt k o)) (fun k o=>g.block k (h.cx k o))
theorem kW.done{I su D0 D'}(u:kW h r s su f l j d e n b c a i D0 k)(L:aO (fun p=>p=b\/p=c) h I)(vB:d<=m)(P:m<=j.length)(kT:mT k (((j.map (·.op)).drop d).take (m-d)) D')(ak:cz I n b c D'.1 D'.2)(af:fM b c (fun p=>oz a e b c p\/h.heap.size<=p) D'.1 D'.2):
  ∃aR,kW I r s su f l j m e n b c aR i D0 D'/\c6 a aR h I:=by
 obtain⟨es,aT,nv⟩:=u.q.af;obtain⟨jz,jA,lf⟩:=u.q.he;have W:∀(p:Nat) (z:Array Value) (t:TypeId) (B:Nat×Nat),h.heap[p]?=some (.cells z t B)->I.heap[p]?=h.heap[p]?:=fun p z t B E=>L.other p (aN E) fun N=>by
  rcases N with rfl|rfl
  ·rw[nv.blk]at E;cases E
  rw[lf.blk]at E;cases E
 have fe:∀{y:TypeId} {size:Nat} {v:Value} {d:Nat} {xs:List Value},h.ownsRow 0 y size v d xs->I.ownsRow 0 y size v d xs:=fun F=>ca F fun g ag=>by
  obtain⟨cur,hc⟩:=bq F ag;exact W g _ _ _ hc
 have X:∀p,a p->p≠b->p≠c->I.heap[p]?=h.heap[p]?:=fun p hF Q R=>L.other p (u.lt p hF) fun N=>N.elim Q R
 have bw:∀p,oz a e b c p->I.heap[p]?=h.heap[p]?:=fun p E=>X p E.1 (fun y=>E.2 (lH.2 (.inr (.inl y)))) (fun y=>E.2 (lH.2 (.inr (.inr y))))
 have rf:∀p,oz a e b c p->oz (fun p=>a p\/(h.heap.size<=p/\p<I.heap.size)) e b c p:=fun p E=>⟨.inl E.1,E.2⟩
 have A6:∀p∈nY e b c,p<h.heap.size:=fun p E=>by
  rcases lH.1 E with⟨w,F,rfl|rfl⟩|rfl|rfl
  ·exact u.lt _ (u.b3 w F).2.1
  ·exact u.lt _ (u.b3 w F).2.2
  ·exact u.lt _ u.pc
  exact u.lt _ u.pd
 have wS:∀w∈e,w.b≠b/\w.b≠c/\w.e≠b/\w.e≠c:=fun w F=>by
  have P:=u.maps;unfold nY at P;have S:=(aqF.1 P).2.2;have Q:w.b∈e.flatMap (fun w=>[w.b,w.e]):=aqq.2 ⟨w,F,by simp⟩;have R:w.e∈e.flatMap (fun w=>[w.b,w.e]):=aqq.2 ⟨w,F,by simp⟩;exact⟨S _ Q _ (by simp),S _ Q _ (by simp),S _ R _ (by simp),S _ R _ (by simp)⟩
 have eQ:=af.there ak;refine⟨fun p=>a p\/(h.heap.size<=p/\p<I.heap.size),⟨?_,fe u.row,fun o fi=>(u.chg o fi).ft (fun p E=>L.other p (u.cx p E) fun N=> ?_) (fun _ x=>x),fe u.mem,u.r3,u.r4,u.r5,P,u.len,fun w F=> ?_,u.mu,ak,?_,u.jl.mu kT,?_,u.maps,.inl u.pY,fun p E=>.inl (u.pO p E),fun p E=>.inl (u.re p E),fun w F=>⟨.inl (u.b3 w F).1,.inl (u.b3 w F).2.1,.inl (u.b3 w F).2.2⟩,.inl u.fd,.inl u.pc,.inl u.pd,fun p E=>E.elim (fun hF=>ap3 (u.lt p hF) L.size) (fun x=>x.2),fun p U E=>E.elim (u.eC p U) (fun x=>by have :=u.cx p U;omega),fun p U=>ap3 (u.cx p U) L.size⟩,⟨L.os,L.tape,L.output,L.size,fun p E hF=>L.other p E fun N=> ?_,fun p E=>E.imp id (·.1)⟩⟩
 ·unfold nX;rw[W _ _ _ _ u.blk];exact u.blk
 ·rcases N with rfl|rfl
  ·exact u.eC _ E u.pc
  exact u.eC _ E u.pd
 ·obtain⟨C,D,z⟩:=u.vA w F;obtain⟨cH,b8,oN,Ql⟩:=wS w F;exact⟨C.apart D (W _ _ _ _ C.ai) (X _ (u.b3 w F).2.1 cH b8) (X _ (u.b3 w F).2.2 oN Ql) bw,D.mono rf (fun M=>M.2 (lH.2 (.inl ⟨w,F,.inl rfl⟩))) (fun M=>M.2 (lH.2 (.inl ⟨w,F,.inr rfl⟩))),z⟩
 ·refine eQ.mono (fun p E=> ?_) (fun M=>M.2 (lH.2 (.inr (.inl rfl)))) (fun M=>M.2 (lH.2 (.inr (.inr rfl))));rcases E.1 with Y|Y
  ·exact rf p Y
  exact⟨.inr ⟨Y,E.2⟩,fun M=>by have :=A6 p M;omega⟩
 ·have :=u.did.append kT;rwa [<-List.take_add,show d+(m-d)=m by omega]at this
 rcases N with rfl|rfl
 ·exact hF u.pc
 exact hF u.pd
theorem kW.LX{w vr' D D0}(v:kW w b n s f l j D e m c d a i D0 k)(N:aO (fun u=>u=b\/l.ownBlock=some u) w h){r:lj}(Q:nX h b n s f vr' m)(U:um 0 h vr' (e.map (·.d)++[r.d]))(hn:iR w l vr')(L:cz h r.d r.b r.e r.D.1 r.D.2)(Y:r.D=k)(h1:w.heap.size<=r.d)(h2:w.heap.size<=r.b)(al:w.heap.size<=r.e)(aL:r.b≠r.e)(au:e.length*n-s=D):
  ∃aR,kW h b n s f vr' j D (e++[r]) m c d aR i D0 k/\c6 a aR w h:=by
 have fI:∀(u:Nat) (B:Array Value) (t:TypeId) (F:Nat×Nat),w.heap[u]?=some (.cells B t F)->t≠204->t≠101->h.heap[u]?=w.heap[u]?:=fun u B t F I cH b8=>N.other u (aN I) fun M=>by
  rcases M with rfl|M
  ·exact cH (bK I v.blk)
  obtain⟨cur,P⟩:=bq v.mem M;exact b8 (bK I P)
 have aoo:∀(u:Nat) (es:Array MapEntry) (aT:Nat),w.heap[u]?=some (.map es aT)->h.heap[u]?=w.heap[u]?:=fun u es aT I=>N.other u (aN I) fun M=>by
  rcases M with rfl|M
  ·have :=v.blk;unfold nX at this;rw[I]at this;cases this
  obtain⟨cur,P⟩:=bq v.mem M;rw[I]at P;cases P
 have DN:∀{m c d:Nat} {os:List (PId×eO)} {ba:List (PId×dR)},cz w m c d os ba->cz h m c d os ba:=fun L=>L.kept N fun u I=>by
  rcases I with rfl|I
  ·exact⟨_,_,_,v.blk,by decide⟩
  obtain⟨cur,P⟩:=bq v.mem I;exact⟨_,_,_,P,by decide⟩
 have A6:∀u∈nY e c d,u<w.heap.size:=fun u I=>by
  rcases lH.1 I with⟨r,U,rfl|rfl⟩|rfl|rfl
  ·exact v.lt _ (v.b3 r U).2.1
  ·exact v.lt _ (v.b3 r U).2.2
  ·exact v.lt _ v.pc
  exact v.lt _ v.pd
 have R:∀u,u∈nY (e++[r]) c d↔u∈nY e c d\/u=r.b\/u=r.e:=fun u=>by
  rw[lH,lH];constructor
  ·rintro(⟨q,L,y⟩|y)
   ·rcases ap7.1 L with L|L
    ·exact .inl (.inl ⟨q,L,y⟩)
    obtain rfl:=ap9.1 L;exact .inr y
   exact .inl (.inr y)
  rintro((⟨q,L,y⟩|y)|y)
  ·exact .inl ⟨q,aq3 _ L,y⟩
  ·exact .inr y
  exact .inl ⟨r,arW _ (ap9.2 rfl),y⟩
 have W:∀u,oz a e c d u->oz (fun u=>a u\/(w.heap.size<=u/\u<h.heap.size)) (e++[r]) c d u:=fun u I=>⟨.inl I.1,fun Q=>by
  rcases(R u).1 Q with Q|rfl|rfl
  ·exact I.2 Q
  ·have :=v.lt _ I.1;omega
  have :=v.lt _ I.1;omega⟩
 have S:∀u,u∈nY (e++[r]) c d->¬oz (fun u=>a u\/(w.heap.size<=u/\u<h.heap.size)) (e++[r]) c d u:=fun u I Q=>Q.2 I
 have hL:=L;rw[Y]at hL;obtain⟨_,_,Qm⟩:=L.af;obtain⟨_,_,FW⟩:=L.he;have aq:=Qm.lt;have aY:=FW.lt;have bb:=L.lt;have rL:cz h r.d r.b r.e r.D.1 r.D.2/\fM r.b r.e (oz (fun u=>a u\/(w.heap.size<=u/\u<h.heap.size)) (e++[r]) c d) r.D.1 r.D.2/\fH r.D:=by
  refine⟨L,?_,Y▸v.jl⟩;rw[Y];have o:=v.own;exact⟨aL,S _ ((R _).2 (.inr (.inl rfl))),S _ ((R _).2 (.inr (.inr rfl))),fun p X z b=>W z (o.fG p X z b),fun p X u I z b=>W z (o.ij p X u I z b),fun p X z b=>W z (o.fX p X z b)⟩
 refine⟨fun u=>a u\/(w.heap.size<=u/\u<h.heap.size),⟨Q,ca v.row fun g ag=> ?_,fun o fi=>(v.chg o fi).ft (fun u I=>N.other u (v.cx u I) fun M=> ?_) (fun _ x=>x),by rw[aqi];exact U,v.r3,v.r4,v.r5,v.le,v.len,fun q L=> ?_,fun E pZ=> ?_,DN v.q,v.own.mono W (S _ ((R _).2 (.inl (lH.2 (.inr (.inl rfl)))))) (S _ ((R _).2 (.inl (lH.2 (.inr (.inr rfl)))))),v.jl,v.did,?_,.inl v.pY,fun u I=>.inl (v.pO u I),fun u I=> ?_,fun q L=> ?_,.inl v.fd,.inl v.pc,.inl v.pd,fun u I=>I.elim (fun hF=>ap3 (v.lt u hF) N.size) (fun x=>x.2),fun u hi I=>I.elim (v.eC u hi) (fun x=>by have :=v.cx u hi;omega),fun u hi=>ap3 (v.cx u hi) N.size⟩,⟨N.os,N.tape,N.output,N.size,fun u I hF=>N.other u I fun M=> ?_,fun u I=>I.imp id (·.1)⟩⟩
 ·obtain⟨cur,P⟩:=bq v.row ag;exact fI g _ _ _ P (by decide) (by decide)
 ·rcases M with rfl|M
  ·exact v.eC _ I v.pY
  exact v.eC _ I (v.re _ M)
 ·rcases ap7.1 L with L|L
  ·obtain⟨C,z,B⟩:=v.vA q L;exact⟨DN C,z.mono W (S _ ((R _).2 (.inl (lH.2 (.inl ⟨q,L,.inl rfl⟩))))) (S _ ((R _).2 (.inl (lH.2 (.inl ⟨q,L,.inr rfl⟩))))),B⟩
  obtain rfl:=ap9.1 L;exact rL
 ·by_cases aE:E<e.length
  ·rw[arv aE];exact v.mu E aE
  have :E=e.length:=by simp at pZ;omega
  subst this;rw[List.getElem_concat_length rfl,au,Y];exact v.did
 ·have hm:=v.maps;unfold nY at hm⊢;rw[aqG,aqs,aqF];obtain⟨m1,m2,m3⟩:=aqF.1 hm;have agp:∀u∈e.flatMap (fun r=>[r.b,r.e]),u<w.heap.size:=fun u I=>A6 u (by unfold nY;exact aq3 _ I)
  have lbo:=v.lt _ v.pc;have lbe:=v.lt _ v.pd;have dp:c≠d:=v.own.ne;refine⟨m1,?_,fun C av z b=> ?_⟩
  ·simp only[aqm,ash,aqB,aqD,aqK,aqw,aqb,asi,or_false,not_or,not_false_eq_true,arh,and_true];refine⟨⟨aL,by omega,by omega⟩,⟨by omega,by omega⟩,dp⟩
  rcases ap7.1 b with b|b
  ·have :=agp C av;simp at b;rcases b with rfl|rfl<;>omega
  exact m3 C av z b
 ·rcases hn with y|y
  ·rw[y]at I;exact .inl (v.re u I)
  refine .inr ⟨y u I,?_⟩;obtain⟨cur,P⟩:=bq U I;exact aN P
 ·rcases ap7.1 L with L|L
  ·exact⟨.inl (v.b3 q L).1,.inl (v.b3 q L).2.1,.inl (v.b3 q L).2.2⟩
  obtain rfl:=ap9.1 L;exact⟨.inr ⟨h1,bb⟩,.inr ⟨h2,aq⟩,.inr ⟨al,aY⟩⟩
 rcases M with rfl|M
 ·exact hF v.pY
 exact hF (v.re _ M)
end
section
open Go.RowKit Tryz
attribute [local go_sem ↓] Go.wp_at_zero Go.wp_at_succ
theorem agq{c d n r:Nat}(f:1<=c)(j:d<c)(g:r=(d+n)/c+1):n<r*c-d/\r*c<=d+n+c/\∀m,n<=m->(m<r*c-d->r=(d+m)/c+1)/\(m=r*c-d->r+1=(d+m)/c+1):=by
 have a:=Nat.div_add_mod (d+n) c;have b:=Nat.mod_lt (d+n) f;generalize(d+n)/c=q at *;generalize(d+n)%c=t at *;have e:r*c=c*q+c:=by rw[g,aqZ,asj,Nat.one_mul]
 obtain⟨P,h⟩:∃P,P=c*q:=⟨_,rfl⟩;rw[<-h]at a e;refine⟨by omega,by omega,fun m k=>⟨fun l=> ?_,fun o=> ?_⟩⟩
 ·rw[g];congr 1;have i:d+m=(d+m-P)+c*q:=by omega
  rw[i,Nat.add_mul_div_left _ _ f,Nat.div_eq_of_lt (by omega)];omega
 congr 1;rw[show d+m=c*r by rw[asj];omega,Nat.mul_div_cancel_left _ f]
theorem W2{w b E L dm cf c n rs d aB be F I D0 D}(h:kW w b E L dm cf c n rs d aB be F I D0 D)(wF:rs.length=(L+n)/E+1):
  O 191 #[Z b,A n] w fun e w'=>(∃r,e=.returned r)/\∃vr' a M D',kW w' b E L dm vr' c c.length a d aB be M I D0 D'/\a.length=(L+c.length)/E+1/\c6 F M w w':=by
 have hlen:=h.len;have hle:=h.le;obtain⟨ju,U,rfl,o8,Qn,zc⟩:=bm h.row;unfold maxLen at Qn;have az:=aa (And.intro h wF);clear h wF;have KY:=aa zc;clear zc;go_enter func191,ntmps191;go_wp2_with fail
 go_loopw [1] (fun i wr=>∃k vr' a M D',i=A (k:Nat)/\kW wr b E L (.slice ju c.length U) vr' c k a d aB be M I D0 D'/\a.length=(L+k)/E+1/\c6 F M w wr) (fun i _=>c.length-(intOf i).toNat)
 case atStart=>exact⟨n,cf,rs,F,D,rfl,az.o.1,az.o.2,c6.cJ (apY _ _)⟩
 case round=>
  obtain⟨k,vr',a,M,D',rfl,f,t,ck⟩:=hrel;have dZ:=f.le;obtain⟨bf,a6,N,l,ee⟩:=gb f.blk;clear bf a6;by_cases aE:k<c.length
  ·obtain⟨nx,EZ,mw⟩:=agq f.r3 f.r5 t;have r6:=f.r4;have wV:=f.r5;have pJ:a.length<=400:=by rw[t];have :=Nat.div_le_self (L+k) E;omega
   obtain⟨DO,BA,rfl,WT,hcr,FX⟩:=bm f.mem;unfold maxLen at hcr;clear FX;rw[ap2]at l WT;obtain⟨g,rfl⟩:=KY.o 0 (by omega);have gL:=aa (P9 f.blk a.length (by omega) f.r4 (by omega));obtain⟨m,hm⟩:∃m:Nat,m=a.length*E-L:=⟨_,rfl⟩;rw[<-hm]at gL nx mw;have HMM:=aa hm;have Hz:m<=500:=by omega
   have oy:=aa mw;clear hm EZ mw;have X:=aa (And.intro f (And.intro t ck));clear f t ck;go_wp2_with fail
   refine gL.o.mono ?_;rintro e v ⟨rfl,aq⟩;replace N:=ae aq N;replace l:=ae aq l;replace ee:=ae aq ee;have ay:=aa aq;clear aq;have dO:=aa (X.o.1.ae ay.o);obtain⟨s,ad⟩:∃s:Nat,s=min m c.length:=⟨_,rfl⟩;have qY:min (m:Int) (c.length:Int)=(s:Int):=by omega
   have dW:k<s:=by omega
   have kq:s<=c.length:=by omega
   have KD:s<=m:=by omega
   have jR:(0:Int)<=(k:Int):=aqc _;have aop:(k:Int)<=(s:Int):=by omega
   have hsc:(s:Int)<=(U:Int):=by omega
   have BB:¬(U=k):=by omega
   have p:=aa (dO.o.ae (apY v.heap.size v).drew);have yl:=aa (show O 134 #[Z d,.slice (some (K g (k*4))) (s-k) (U-k)] v.drew _ from by
    have :=afx (w:=v.drew) (R:=fun j=>oz M a aB be j\/v.drew.heap.size<=j) p.o.q (p.o.own.mono (fun j au=>.inl au) (fun ao=>ao.elim p.o.own.ro (fun x=>by have :=p.o.lt _ p.o.pc;omega)) (fun ao=>ao.elim p.o.own.FC (fun x=>by have :=p.o.lt _ p.o.pd;omega))) p.o.jl (fun j au=>.inr au) g (k*4) (U-k) (((c.map (·.op)).drop k).take (s-k)) (by simp;omega) (by simp;omega) (by omega) (fun i hi=>by
     simp at hi;obtain⟨cC,aj,aw,cS⟩:=fN.cells p.o.row (k+i) (by omega);have FK:=p.o.chg c[k+i] (ap6 _);rw[show k*4+i*4=(k+i)*4 by omega];simp only[arR,asL,aqH];exact⟨cC,aj,aw,_,cS,FK.chg⟩)
    simpa[show min (s-k) (c.length-k)=s-k by omega]using this)
   have Hg:=aN dO.o.blk;have u:=aa (show b≠aB/\b≠be from by
    obtain⟨es,aT,nv⟩:=dO.o.q.af;obtain⟨jz,jA,lf⟩:=dO.o.q.he;have h1:=dO.o.blk;constructor
    ·rintro rfl;unfold nX at h1;rw[nv.blk]at h1;cases h1
    rintro rfl;unfold nX at h1;rw[lf.blk]at h1;cases h1)
   rcases(show s=m\/s<m by omega) with lf|VC
   ·have Qo:True:=trivial;go_wp2_with fail
    all_goals(try(exfalso;omega))
    rw[<-ad];clear ad qY Qo;subst lf;go_region_held3 (fun W=>W.cell? (K b 2)=some (.slice (some (H g)) c.length U)/\W.cell? (K b 4)=some (Z d)) (go_keep)
     (first |(go_at_call 134;refine yl.o.mono ?_;rintro e B ⟨⟨r,rfl⟩,⟨Y,DQ,kT,gZ,iv⟩,y⟩;replace N:=y.cell (w:=v.drew) (fun h=>h.elim u.o.1 u.o.2) N;replace l:=y.cell (w:=v.drew) (fun h=>h.elim u.o.1 u.o.2) l;replace ee:=y.cell (w:=v.drew) (fun h=>h.elim u.o.1 u.o.2) ee;have z:=aa (p.o.done y (by omega) kq (D':=(Y,DQ)) kT gZ iv);clear kT gZ iv y))
    obtain⟨jk,P,my⟩:=z.o;clear z;rw[ap2]at P;have z:=aa P;have jS:=aa (show c6 F jk w B from X.o.2.2.trans (my.before ay.o.drew));clear my;have ff:=aa (show um 0 B (.slice DO a.length BA) (a.map (·.d)) from P.mem);have agr:=aa (show J B B.drew from(apY _ B).drew);have Ip:=aa (PS (z.o.ae agr.o).q);have ags:=World.new_ne B (K b 3) l;have cB:=aa P.blk;have DR:=aa (show some b≠(Value.slice DO a.length BA).ownBlock from fun e=>by
     obtain⟨cur,t⟩:=bq ff.o e.symm;exact absurd (bK t cB.o) (by decide))
    have aoq:=aN P.blk;clear P;have Qp:=aa (show(a.map (·.d)).length=a.length from ap2 _);go_wp2_with fail
    go_region_law (first
      |(go_simp;go_at_call 213;refine Ip.o.mono ?_;rintro e C ⟨⟨d3,W3,W4,rfl,yo,Bt,Bu,Bv,Bw⟩,bb⟩;have Q:=Hq.o (mx bb);clear bb;replace N:=ae Q N;replace l:=ae Q l;replace ee:=ae Q ee;have mR:=Q.size;have zK:b<C.heap.size:=(by omega);have W5:=World.new_ne C (K b 3) l;have ek:=aa (bj cB.o Q);have hy:=aa (show um 0 C (.slice DO a.length BA) (a.map (·.d)) from c7 ff.o Q);have bB:=aa Q;clear Q;have zG:=aa (And.intro yo (And.intro Bt (And.intro Bu (And.intro Bv Bw))));clear yo Bt Bu Bv Bw;have bL:=aa (show J C (C.alloc (.cells #[Z d3] 101)) from(apY _ C).alloc (apX _) _);dsimp only)
      |(refine xO iI 1 8 200 101 (.pointer none) (by kernel_rfl) underlying200 rfl (by omega) (fun _=>rfl) (by rfl) (.tmp 47) (.tmp 53) (by rfl) 0 (.slice DO a.length BA) (a.map (fun x:lj=>x.d)) (by rfl) (c7 hy.o bL.o) C.heap.size 1 d3 (by rfl) (P8 (WK (bI C _))) (P7 d3) (by rw[ap2];omega) (by rw[ap2];unfold maxLen;omega) (apZ _) ?_;intro v4 w4 ha dw fR;have eA:=aa ha;have j8:=aa dw;have iY:=aa fR;have Iq:w4.heap[b]?=C.heap[b]?:=((dw.block b (by simp;omega) (DR.o)).trans (hK _ _ zK));have fO:=aa (Iq.trans ek.o);clear Iq ha dw fR;obtain⟨a4,j9,r7,uv,vC,wX⟩:=bm eA.o;rw[Qp.o]at r7;subst r7;clear uv vC wX;replace l:=(gb fO.o).2.2.2.1;have vb:=cG fO.o 3))
    all_goals go_wp2
    all_goals go_roundw
    all_goals first
     |(simp[intOf];omega)
     |(
      have FI:aO (fun k=>k=b\/(Value.slice DO a.length BA).ownBlock=some k) B w4:=(aO.cJ (bB.o.trans (bL.o.mono bB.o.size))).trans (aO.r2 j8.o fun k hk=>.inr hk);have DS:=FI.trans (aO.kU (w:=w4) (g:=b) (o:=3) (.slice a4 (a.length+1) j9) (.inl rfl));have tj:(Value.slice a4 (a.length+1) j9).ownBlock≠some b:=fun e=>by
       obtain⟨cur,t⟩:=bq eA.o e;exact absurd (bK t fO.o) (by decide)
      have BC:=zG.o.1.kept ((aO.cJ bL.o).trans ((aO.r2 j8.o (S:=fun k=>k=b\/(Value.slice DO a.length BA).ownBlock=some k) fun k hk=>.inr hk).trans (aO.kU (w:=w4) (g:=b) (o:=3) (.slice a4 (a.length+1) j9) (.inl rfl)))) (fun k hk=>by
       rcases hk with rfl|hk
       ·exact⟨_,_,_,ek.o,by decide⟩
       obtain⟨cur,t⟩:=bq hy.o hk;exact⟨_,_,_,t,by decide⟩)
      obtain⟨apt,Qe,LU⟩:=z.o.LX DS (vr':=.slice a4 (a.length+1) j9) (r:=⟨d3,W3,W4,(Y,DQ)⟩) (P2 fO.o) (by
       have :=iV eA.o tj (o:=3) (.slice a4 (a.length+1) j9);unfold um;rw[ap4];exact this) (iY.o.mono (ap0 bB.o.size bL.o.size)) BC rfl zG.o.2.1 zG.o.2.2.1 zG.o.2.2.2.1 zG.o.2.2.2.2 HMM.o.symm
      exact⟨s,_,a++[⟨d3,W3,W4,(Y,DQ)⟩],apt,(Y,DQ),rfl,Qe,by rw[ap4];exact(oy.o s (by omega)).2 rfl,jS.o.trans LU⟩)
   have Qo:True:=trivial;go_wp2_with fail
   all_goals(try(exfalso;omega))
   rw[<-ad];clear ad qY Qo;go_region_held3 (fun W=>W.cell? (K b 2)=some (.slice (some (H g)) c.length U)/\W.cell? (K b 4)=some (Z d)) (go_keep)
    (first |(go_at_call 134;refine yl.o.mono ?_;rintro e B ⟨⟨r,rfl⟩,⟨Y,DQ,kT,gZ,iv⟩,y⟩;replace N:=y.cell (w:=v.drew) (fun h=>h.elim u.o.1 u.o.2) N;replace l:=y.cell (w:=v.drew) (fun h=>h.elim u.o.1 u.o.2) l;replace ee:=y.cell (w:=v.drew) (fun h=>h.elim u.o.1 u.o.2) ee;have z:=aa (p.o.done y (by omega) kq (D':=(Y,DQ)) kT gZ iv);clear kT gZ iv y))
   obtain⟨jk,P,my⟩:=z.o;clear z;have z:=aa P;have jS:=aa (show c6 F jk w B from X.o.2.2.trans (my.before ay.o.drew));clear my;go_wp2;go_roundw
   case rel=>exact⟨s,_,a,jk,(Y,DQ),rfl,z.o,(oy.o s (by omega)).1 VC,jS.o⟩
   case measure=>simp[intOf];omega
  have ho:k=c.length:=by omega
  subst ho;have X:=aa (And.intro f (And.intro t ck));clear f t ck l ee;go_wp2;go_end0
  exact⟨⟨_,rfl⟩,vr',a,M,D',X.o.1,X.o.2.1,X.o.2.2⟩
def BD (a:Array Value) (o:Nat):List Value->Array Value
 |[]=>a
 |v::r=>BD (a.setIfInBounds o v) (o+1) r
theorem W6:∀(b:List Value) (a:Array Value) (o:Nat),(BD a o b).size=a.size
 |[],_,_=>rfl
 |v::r,a,o=>by
  unfold BD;rw[W6 r,Array.size_setIfInBounds]
theorem Qq:∀(c:List Value) (a:Array Value) (o j:Nat),(BD a o c)[j]?=if o<=j/\j<o+c.length/\j<a.size then c[j-o]? else a[j]?
 |[],a,o,j=>by
  unfold BD;rw[if_neg (by simp;omega)]
 |v::r,a,o,j=>by
  unfold BD;rw[Qq r,Array.size_setIfInBounds,aqk];by_cases d:j=o
  ·subst d;rw[if_neg (by omega)];by_cases b:j<a.size
   ·simp_all
   simp_all
  by_cases b:o+1<=j/\j<o+1+r.length/\j<a.size
  ·rw[if_pos b,if_pos ⟨by omega,by omega,b.2.2⟩];obtain⟨k,f⟩:∃k,j-o=k+1:=⟨j-o-1,by omega⟩;rw[f,show j-(o+1)=k by omega];rfl
  rw[if_neg b,if_neg (by omega),arJ,if_neg (fun e=>d e.symm)]
theorem W7{g:Nat}{t:TypeId}:∀(b:List Value) (o:Nat) (w:World) (a:Array Value),w.heap[g]?=some (.cells a t (0,0))->(w.setCells g o b).heap[g]?=some (.cells (BD a o b) t (0,0))
 |[],_,_,_,h=>h
 |v::r,o,w,a,h=>W7 r (o+1) (w.setCell (K g o) v) (a.setIfInBounds o v) (setRow h)
theorem W8{g:Nat}:∀(a:List Value) (o:Nat) (W:World),aO (fun k=>k=g) W (W.setCells g o a)
 |[],_,W=>aO.cJ (apY _ _)
 |v::r,o,W=>(aO.kU (S:=fun k=>k=g) (g:=g) (o:=o) v rfl).trans (W8 r (o+1) (W.setCell (K g o) v))
end
end Go.Proofs.YtnkpogjiiohapaaGreatDoor
