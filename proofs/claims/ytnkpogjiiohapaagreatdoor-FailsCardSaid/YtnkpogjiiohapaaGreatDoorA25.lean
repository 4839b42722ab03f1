/- Our own text. -/
import Derived.Test.YtnkpogjiiohapaaGreatDoorA23
import Derived.Test.YtnkpogjiiohapaaGreatDoorA24
import Derived.Test.YtnkpogjiiohapaaGreatDoorA20
import Derived.Test.YtnkpogjiiohapaaGreatDoorA21
set_option linter.unusedSimpArgs false
set_option linter.unusedVariables false
set_option maxRecDepth 1000000
set_option maxHeartbeats 2000000
namespace Go.Proofs.YtnkpogjiiohapaaGreatDoor
section
open Go.RowKit Tryz
variable {a b f k:Nat}{c e l m:Nat->Prop}{h j:World}
structure bn where
 gt:Nat->Int
 has:Nat->Nat->Int
 ops:Nat->List ar
 gone:Nat->List ar
 kept:Nat->List ar
 early:Nat->List (PId×ar)
 ll:Nat->Nat->Nat->Int
 ms:Nat->Nat->List hp
 sh:Nat->Nat->Bool
variable {d:bn}
structure cI where
 db:Nat
 eY:Nat
 jK:Nat
 lm:List (PId×Nat)
 eo:Nat->Nat
 h8:Nat->Nat->Prop
 q:Nat->fS
 gl:Nat->Nat->Nat
 gc:Nat->Nat->Nat
 fX:Nat->Nat->List Value
 rq:Nat->Nat->Nat
 tt:Nat->Nat->Nat
variable {i:cI}
def Rz (k:Nat):Value:=Z k
theorem B1 {α:Type} (f:Nat->α) (c:Nat):upd f c (f c)=f:=by
 funext i;unfold upd;split
 ·rename_i e;rw[e]
 rfl
def Yu (a:List ar) (D0:nA):Prop:=e1 c4 D0.1/\fH D0.1/\(∀p∈D0.1.1,p.2.ks=[])/\D0.2=a.map (·.op)
structure ec (w:World) (r:Nat) (F I:Nat->Prop) (N sp:Nat) (s:bn) (x:cI):Prop where
 blk:w.heap[r]?=some (.cells #[.slice (some (H x.db)) N x.eY,.map (some x.jK)] 119 (0,0))
 row:w.ownsRow 0 92 1 (.slice (some (H x.db)) N x.eY) N ((List.range N).flatMap fun c=>iI (x.eo c))
 hN:N<=4
 eK:∀c,c<N->dA w (x.eo c) (x.h8 c) I N sp c (s.gt c) (s.has c) (s.kept c) (s.early c) (x.q c)
 ko:∀c,c<N->Yu (s.gone c) (x.q c).D0
 l3:∀c,c<N->s.ops c=s.gone c++s.kept c
 z7:∀c d,c<N->d<N->c≠d->∃g,bC (d:Int) (x.q c).kX=some g/\∀i,i<N->rowOf ((x.q c).ea g) i=s.ll c d i
 Ej:∀c,c<N->(∀d ch g,bC d (x.q c).kX=some g->bC ch (x.q c).kX=some g->d=ch)/\(∀p∈(x.q c).kX,∃d:Nat,d<N/\d≠c/\p.1=(d:Int))/\((x.q c).kX.map (·.1)).Nodup
 lmap:∃es aT,isMap c0 Rz w x.jK x.lm es aT
 look:∀c d,c<N->d<N->c≠d->bC ((c:Int),(d:Int)) x.lm=some (x.gl c d)
 z8:∀a b:Int,(¬∃c d:Nat,c<N/\d<N/\c≠d/\a=c/\b=d)->bC (a,b) x.lm=none
 link:∀c d,c<N->d<N->c≠d->hq w (x.gl c d) (x.gc c d) (x.fX c d) (s.sh c d) (x.rq c d) (x.tt c d)
 tu:∀c d,c<N->d<N->c≠d->eb (rn w I) (s.ms c d) (x.fX c d)
 inj:∀c d b7 ch,c<N->d<N->c≠d->b7<N->ch<N->b7≠ch->x.gc c d=x.gc b7 ch->c=b7/\d=ch
 sub:∀c,c<N->∀k,x.h8 c k->F k
 jn:∀c b7,c<N->b7<N->c≠b7->∀k,x.h8 c k->¬x.h8 b7 k
 pg:∀c,c<N->¬x.h8 c r
 yF:∀c,c<N->¬x.h8 c x.db
 p2:∀c,c<N->¬x.h8 c x.jK
 nl:∀e,e<N->∀c d,c<N->d<N->c≠d->¬x.h8 e (x.gl c d)/\¬x.h8 e (x.gc c d)
 b3:F r
 lW:F x.db
 oB:F x.jK
 dq:∀c d,c<N->d<N->c≠d->F (x.gl c d)/\F (x.gc c d)
 lt:∀k,F k->k<w.heap.size
 eC:∀k,I k->¬F k
 cx:∀k,I k->k<w.heap.size
theorem ahP(f:Nat->Nat)(n k:Nat)(a:k<n):((List.range n).flatMap fun c=>iI (f c))[k]?=some (Z (f k)):=by
 have :((List.range n).flatMap fun c=>iI (f c))=(List.range n).map fun c=>Z (f c):=by
  unfold iI;exact List.map_eq_flatMap.symm
 rw[this];simp[a]
theorem eb.imp {α β:Type} {R d:α->β->Prop} (h:∀a b,R a b->d a b):∀{l:List α} {m:List β},eb R l m->eb d l m
 |[],[],_=>trivial
 |[],_::_,c=>c.elim
 |_::_,[],c=>c.elim
 |_::_,_::_,c=>⟨h _ _ c.1,eb.imp h c.2⟩
theorem hq.j3{l d}(c:hq h a b l d f k)(e:j.heap[a]?=h.heap[a]?)(g:j.heap[b]?=h.heap[b]?):hq j a b l d f k:=
 ⟨e.trans c.blk,g.trans c.lA,c.len⟩
theorem ec.gw{w r F I N sp s x}{i:World}(h:ec w r F I N sp s x)(j:w.heap.size<=i.heap.size)(b:∀k,F k->i.heap[k]?=w.heap[k]?)(n:∀k,I k->i.heap[k]?=w.heap[k]?):ec i r F I N sp s x:=by
 obtain⟨o,p,l⟩:=h.lmap;exact⟨by rw[b _ h.b3];exact h.blk,ca h.row (fun g q=>by cases q;exact b _ h.lW),h.hN,fun c a=>(h.eK c a).gw j (fun k hF=>b k (h.sub c a k hF)) n,h.ko,h.l3,h.z7,h.Ej,⟨o,p,l.gJ (b _ h.oB)⟩,h.look,h.z8,fun c d a e f=>(h.link c d a e f).j3 (b _ (h.dq c d a e f).1) (b _ (h.dq c d a e f).2),fun c d a e f=>(h.tu c d a e f).imp fun m u l=>l.ft n j (fun _ y=>y),h.inj,h.sub,h.jn,h.pg,h.yF,h.p2,h.nl,h.b3,h.lW,h.oB,h.dq,fun k hF=>ap3 (h.lt k hF) j,h.eC,fun k hF=>ap3 (h.cx k hF) j⟩
theorem ec.ae{w r x}{w':World}(h:ec w r c e a b d x)(f:J w w'):ec w' r c e a b d x:=h.gw f.size (fun k g=>f.block k (h.lt k g)) (fun k g=>f.block k (h.cx k g))
theorem ec.cell{w x}(h:ec w b e l a f d x){c:Nat}(g:c<a):w.cell? (K x.db c)=some (Z (x.eo c)):=by
 have i:=arN h.row c (by omega);rw[i];exact ahP x.eo a c g
theorem ec.cap{w r s}(h:ec w r c l b f s i):b<=i.eY/\i.eY<=maxLen:=by
 obtain⟨a,d,e,g,j,_⟩:=bm h.row;cases e;exact⟨g,j⟩
theorem ec.zP{w r F I N b s x}(h:ec w r F I N b s x){I':Nat->Prop}(e:∀k,I k->I' k)(f:∀k,I' k->k<w.heap.size)(g:∀k,I' k->¬F k):ec w r F I' N b s x:=
 ⟨h.blk,h.row,h.hN,fun c a=>(h.eK c a).zP e f fun k i hF=>g k i (h.sub c a k hF),h.ko,h.l3,h.z7,h.Ej,h.lmap,h.look,h.z8,h.link,fun c d a j l=>(h.tu c d a j l).imp fun m u n=>n.ft (fun _ _=>rfl) (apX _) e,h.inj,h.sub,h.jn,h.pg,h.yF,h.p2,h.nl,h.b3,h.lW,h.oB,h.dq,h.lt,g,f⟩
theorem ec.Yv{BK has' gone' Ek iM P}(n:ec h f e l b k d i)(I:a<b){ops':List ar}{nw':Nat->Nat->Int}(S:dA j (i.eo a) c m b k a BK has' Ek iM P)(F:c6 (i.h8 a) c h j)(U:∀o,l o->m o)(oC:∀o,m o->l o\/h.heap.size<=o)(nP:Yu gone' P.D0)(r6:ops'=gone'++Ek)(K9:P.kX=(i.q a).kX)(El:∀t,t<b->a≠t->∀g,bC (t:Int) (i.q a).kX=some g->∀v,v<b->rowOf (P.ea g) v=nw' t v):
  ∃Q,ec j f (fun o=>e o\/c o) m b k {d with gt:=upd d.gt a BK,has:=upd d.has a has',ops:=upd d.ops a ops',gone:=upd d.gone a gone',kept:=upd d.kept a Ek,early:=upd d.early a iM,ll:=upd d.ll a nw'} Q/\c6 e (fun o=>e o\/c o) h j/\Q.eo=i.eo/\Q.gl=i.gl/\Q.gc=i.gc/\Q.fX=i.fX/\Q.q=upd i.q a P:=by
 have N:∀o,o<h.heap.size->¬i.h8 a o->j.heap[o]?=h.heap[o]?:=F.other;have hi:∀o,l o->j.heap[o]?=h.heap[o]?:=fun o U=>N o (n.cx o U) fun hF=>n.eC o U (n.sub a I o hF)
 obtain⟨es,aT,hm⟩:=n.lmap;have L:∀p,p<b->∀o,(if p=a then c else i.h8 p) o->i.h8 p o\/h.heap.size<=o:=fun p z o hF=>by
  by_cases B:p=a
  ·subst B;simp only[if_true]at hF;exact F.sub o hF
  simp only[B,if_false]at hF;exact .inl hF
 refine⟨{i with h8:=fun p=>if p=a then c else i.h8 p,q:=upd i.q a P},⟨?_,ca n.row (fun g ag=>by cases ag;exact N i.db (n.lt _ n.lW) (n.yF a I)),n.hN,?_,?_,?_,?_,?_,⟨es,aT,hm.gJ (N _ (n.lt _ n.oB) (n.p2 a I))⟩,n.look,n.z8,fun r s C D E=>(n.link r s C D E).j3 (N _ (n.lt _ (n.dq r s C D E).1) (n.nl a I r s C D E).1) (N _ (n.lt _ (n.dq r s C D E).2) (n.nl a I r s C D E).2),fun r s C D E=>(n.tu r s C D E).imp fun x u hm=>hm.ft hi F.size U,n.inj,?_,?_,?_,?_,?_,?_,.inl n.b3,.inl n.lW,.inl n.oB,fun r s C D E=>⟨.inl (n.dq r s C D E).1,.inl (n.dq r s C D E).2⟩,?_,?_,S.cx⟩,?_,rfl,rfl,rfl,rfl,rfl⟩
 ·rw[N f (n.lt _ n.b3) (n.pg a I)];exact n.blk
 ·intro p z;by_cases B:p=a
  ·subst B;simp only[bF,if_true];exact S
  simp only[b6 _ _ B,B,if_false];refine((n.eK p z).gw F.size (fun o hF=>N o ((n.eK p z).lt o hF) (n.jn p a z I B o hF)) hi).zP U S.cx fun o M hF=> ?_
  rcases oC o M with y|y
  ·exact n.eC o y (n.sub p z o hF)
  have :=(n.eK p z).lt o hF;omega
 ·intro p z;by_cases B:p=a
  ·subst B;simp only[bF];exact nP
  simp only[b6 _ _ B];exact n.ko p z
 ·intro p z;by_cases B:p=a
  ·subst B;simp only[bF];exact r6
  simp only[b6 _ _ B];exact n.l3 p z
 ·intro p w z aD RA;by_cases B:p=a
  ·subst B;simp only[bF,K9];obtain⟨g,ag,_⟩:=n.z7 p w z aD RA;exact⟨g,ag,El w aD RA g ag⟩
  simp only[b6 _ _ B];exact n.z7 p w z aD RA
 ·intro p z;by_cases B:p=a
  ·subst B;simp only[bF,K9];exact n.Ej p z
  simp only[b6 _ _ B];exact n.Ej p z
 ·intro p z o hF;rcases L p z o hF with y|y
  ·exact .inl (n.sub p z o y)
  by_cases B:p=a
  ·subst B;simp only[if_true]at hF;exact .inr hF
  simp only[B,if_false]at hF;exact .inl (n.sub p z o hF)
 ·intro W R y X bp o uG vS;rcases L W y o uG with b2|b2
  ·rcases L R X o vS with Y|Y
   ·exact n.jn W R y X bp o b2 Y
   have :=(n.eK W y).lt o b2;omega
  rcases L R X o vS with Y|Y
  ·have :=(n.eK R X).lt o Y;omega
  by_cases aj:W=a
  ·have aw:¬R=a:=fun p=>bp (aj.trans p.symm)
   simp only[aw,if_false]at vS;have :=(n.eK R X).lt o vS;omega
  simp only[aj,if_false]at uG;have :=(n.eK W y).lt o uG;omega
 ·intro p z hF;rcases L p z f hF with y|y
  ·exact n.pg p z y
  have :=n.lt _ n.b3;omega
 ·intro p z hF;rcases L p z _ hF with y|y
  ·exact n.yF p z y
  have :=n.lt _ n.lW;simp only at y;omega
 ·intro p z hF;rcases L p z _ hF with y|y
  ·exact n.p2 p z y
  have :=n.lt _ n.oB;simp only at y;omega
 ·intro p z r s C D E;refine⟨fun hF=> ?_,fun hF=> ?_⟩
  ·rcases L p z _ hF with y|y
   ·exact(n.nl p z r s C D E).1 y
   have :=n.lt _ (n.dq r s C D E).1;simp only at y;omega
  rcases L p z _ hF with y|y
  ·exact(n.nl p z r s C D E).2 y
  have :=n.lt _ (n.dq r s C D E).2;simp only at y;omega
 ·intro o M;rcases M with M|M
  ·exact ap3 (n.lt o M) F.size
  exact S.lt o M
 ·intro o yG hF;rcases hF with hF|hF
  ·rcases oC o yG with y|y
   ·exact n.eC o y hF
   have :=n.lt o hF;omega
  exact S.eC o yG hF
 exact⟨F.os,F.tape,F.output,F.size,fun o hl hF=>N o hl fun y=>hF (n.sub a I o y),fun o M=>M.elim .inl fun y=>(F.sub o y).imp (n.sub a I o) id⟩
theorem ec.RB{x y u z v}(o:ec h k c m b f d i)(t:a<b){ops':List ar}(D:dA j (i.eo a) e l b f a x y u z v)(E:c6 (i.h8 a) e h j)(F:∀n,m n->l n)(I:∀n,l n->m n\/h.heap.size<=n)(w:FZ (i.q a) v)(L:ops'=d.gone a++u):
  ∃s,ec j k (fun n=>c n\/e n) l b f {d with gt:=upd d.gt a x,has:=upd d.has a y,ops:=upd d.ops a ops',kept:=upd d.kept a u,early:=upd d.early a z} s/\c6 c (fun n=>c n\/e n) h j/\s.eo=i.eo/\s.gl=i.gl/\s.gc=i.gc/\s.fX=i.fX/\s.q=upd i.q a v:=by
 have B:=o.Yv t D E F I (gone':=d.gone a) (nw':=d.ll a) (by rw[w.1];exact o.ko a t) L w.2.1 (fun p M N g P r Q=>by
  obtain⟨S,C,R⟩:=o.z7 a p t M N;rw[P]at C;cases C;rw[w.2.2];exact R r Q)
 rw[B1,B1]at B;exact B
theorem ec.Em{r F N R l ms rq tt}(n:ec h r F c N R d i)(C:f<N)(D:k<N)(E:f≠k)(hl:hq j (i.gl f k) (i.gc f k) l (d.sh f k) rq tt)(x:aO (fun o=>o=i.gc f k) h j)(I:eb (rn h c) ms l):
  ec j r F c N R {d with ms:=upd d.ms f (upd (d.ms f) k ms)} {i with fX:=upd i.fX f (upd (i.fX f) k l),rq:=upd i.rq f (upd (i.rq f) k rq),tt:=upd i.tt f (upd (i.tt f) k tt)}:=by
 have S:=(n.link f k C D E).lA;have O8:=(n.dq f k C D E).2;have q:∀o,F o->o≠i.gc f k->j.heap[o]?=h.heap[o]?:=fun o hF hn=>x.other o (n.lt o hF) hn
 have U:∀o,c o->j.heap[o]?=h.heap[o]?:=fun o W=>x.other o (n.cx o W) fun e=>n.eC o W (e▸O8)
 have L:∀(o:Nat) (X:Array Value) (t:TypeId) (p:Nat×Nat),h.heap[o]?=some (.cells X t p)->o≠i.gc f k:=fun o X t p q e=>by rw[e,S]at q;cases q
 obtain⟨es,aT,Y⟩:=n.lmap;have gD:i.jK≠i.gc f k:=fun e=>by have :=Y.blk;rw[e,S]at this;cases this
 have hgC:i.db≠i.gc f k:=fun e=>by
  obtain⟨cur,cr⟩:=bq n.row (g:=i.db) rfl;exact L _ _ _ _ cr e
 refine⟨by rw[q _ n.b3 (L _ _ _ _ n.blk)];exact n.blk,ca n.row (fun g ag=>by cases ag;exact q _ n.lW hgC),n.hN,fun e M=>(n.eK e M).gw x.size (fun o hF=>q o (n.sub e M o hF) fun P=>(n.nl e M f k C D E).2 (P▸hF)) U,n.ko,n.l3,n.z7,n.Ej,⟨es,aT,Y.gJ (q _ n.oB gD)⟩,n.look,n.z8,?_,?_,n.inj,n.sub,n.jn,n.pg,n.yF,n.p2,n.nl,n.b3,n.lW,n.oB,n.dq,fun o hF=>ap3 (n.lt o hF) x.size,n.eC,fun o hF=>ap3 (n.cx o hF) x.size⟩
 ·intro a b s v w;by_cases e:a=f/\b=k
  ·obtain⟨rfl,rfl⟩:=e;simp only[bF];exact hl
  have bp:i.gc a b≠i.gc f k:=fun P=>e (n.inj a b f k s v w C D E P)
  have jO:=(n.link a b s v w).j3 (q _ (n.dq a b s v w).1 (L _ _ _ _ (n.link a b s v w).blk)) (q _ (n.dq a b s v w).2 bp);by_cases B:a=f
  ·subst B;have z:b≠k:=fun z=>e ⟨rfl,z⟩
   simp only[bF,b6 _ _ z];exact jO
  simp only[b6 _ _ B];exact jO
 intro a b s v w;have Q:∀{ms:List hp} {l:List Value},eb (rn h c) ms l->eb (rn j c) ms l:=fun ax=>ax.imp fun m u I=>I.ft U x.size (fun _ y=>y)
 by_cases B:a=f
 ·subst B;by_cases z:b=k
  ·subst z;simp only[bF];exact Q I
  simp only[bF,b6 _ _ z];exact Q (n.tu a b s v w)
 simp only[b6 _ _ B];exact Q (n.tu a b s v w)
end
section
open Go.RowKit Tryz
attribute [local go_sem ↓] Go.wp_at_zero Go.wp_at_succ
variable {a c d h k:Nat}{b n:World}{e j:Nat->Prop}{f:bn}{i:cI}{l:Value}{m:List Value}
theorem RC(h:ec b c e j a d f i)(g:Nat)(l:g<a):
  O 44 #[Z c,A g] b fun k m=>k=.returned (.tuple #[Z (i.eo g),A 0])/\m=b:=by
 have n:=(bl h.blk).1;have o:=h.cell l;have p:=h.cap;have q:=h.hN;have r:(0:Int)<=(g:Int):=by simp
 have s:(g:Int)<(a:Int):=by omega
 go_enter func44,ntmps44;go_wp2;go_ret2
 simp
theorem ec.find(l:ec b h e j d k f i)(m:a<d)(n:c<d)(o:a≠c)(g:Bool)(W:World)(p:J b W):(Instr.lookup 117 (.map (some i.jK)) (.agg #[A a,A c]) g).run prog W=.ok (if g then .tuple #[Z (i.gl a c),.bool true] else Z (i.gl a c)) W:=by
 obtain⟨r,s,q⟩:=l.lmap;have :=yZ QC (q.ae p) underlying117 (show(zeroValue 110).run prog W=.ok (.pointer none) W by kernel_rfl) ((a:Int),(c:Int)) g;rw[l.look a c m n o]at this;cases g with
 |true=>exact this
 |false=>exact this
theorem IV(g:ec b h e j d k f i)(m:a<d)(n:c<d)(o:a≠c):
  O 51 #[Z h,A a,A c] b fun l p=>l=.returned (.tuple #[Z (i.gl a c),A 0])/\p=b:=by
 have q:=(bl g.blk).2;have r:=g.find m n o true b (apY _ _);go_enter func51,ntmps51;go_wp2;go_ret2
 simp
theorem MB(l:ec b h e j d k f i)(p:a<d)(q:c<d)(r:a≠c):
  O 74 #[Z h,A a,A c] b fun g u=>g=.returned (if f.ms a c=[] then .tuple #[.pointer none,A 12] else .tuple #[Z (i.gl a c),A 0])/\u=b:=by
 have t:=IV l p q r;have s:=aa (Rq (l.link a c p q r));have n:=(l.tu a c p q r).len;by_cases m:f.ms a c=[]
 ·rw[if_pos m];rw[m]at n;rw[<-n]at s;clear n m;go_enter func74,ntmps74;go_wp2_with fail
  refine t.mono ?_;rintro g v ⟨rfl,rfl⟩;go_wp2_with fail
  refine s.o.mono ?_;rintro g w ⟨rfl,rfl⟩;go_wp2;go_ret2
  simp
 rw[if_neg m];have x:¬(i.fX a c).length=0:=by
  rw[<-n];exact fun g=>m (arb g)
 go_enter func74,ntmps74;go_wp2_with fail
 refine t.mono ?_;rintro g v ⟨rfl,rfl⟩;go_wp2_with fail
 refine s.o.mono ?_;rintro g w ⟨rfl,rfl⟩;go_wp2;go_ret2
 simp
theorem ahQ(h:ec b c e j a d f i)(g:Nat)(l:g<a):
  O 25 #[Z c,A g] b fun k m=>∃u,k=.returned (.tuple #[u,A 0])/\qF b.heap.size m u (km a (f.has g))/\J b m:=by
 obtain⟨s,t,v,w,ee,x⟩:=(h.eK g l).cells;have n:=aa (XY (h.eK g l).ints (by rw[uD];have :=h.hN;omega));rw[uD]at n;go_enter func25,ntmps25;go_wp2_with fail
 refine(RC h g l).mono ?_;rintro k y ⟨rfl,rfl⟩;go_wp2_with fail
 refine n.o.mono ?_;rintro k z ⟨u,rfl,q,r⟩;have p:=And.intro q r;go_wp2;go_ret2
 exact⟨u,rfl,p.1,p.2⟩
theorem MC{g}{F:Nat->Prop}(c:J b n)(d:aO (fun k=>k=a) n g)(h:F a):c6 F F b g:=
 ⟨d.os.trans c.os,d.tape.trans c.tape,d.output.trans c.output,ap0 c.size d.size,fun k f hF=>(d.other k (ap3 f c.size) fun e=>hF (e▸h)).trans (c.block k f),fun k f=>.inl f⟩
def B2 (N:Nat) (s:bn) (c d:Nat):bn:=if s.sh c d=true\/(s.ms c d).length=12 then s else{s with ms:=upd s.ms c (upd (s.ms c) d (s.ms c d++[.inl (km N (s.has c))]))}
def B3 (I a:Nat->Prop) (w b:World):Prop:=(∀k,I k->a k/\b.heap[k]?=w.heap[k]?)/\∀k,a k->I k\/w.heap.size<=k
theorem B3.trans{I d e w c f}(h:B3 I d w c)(k:B3 d e c f)(g:w.heap.size<=c.heap.size):B3 I e w f:=⟨fun b a=>⟨(k.1 b (h.1 b a).1).1,(k.1 b (h.1 b a).1).2.trans (h.1 b a).2⟩,fun b a=>(k.2 b a).elim (h.2 b) fun i=>.inr (ap0 g i)⟩
def vT (r N d:Nat) (F I:Nat->Prop) (w a:World) (e:bn):Prop:=∃b c f,ec a r b c N d e f/\c6 F b w a/\B3 I c w a
theorem ec.same{w}{w':World}(h:ec w a e j c d f i)(g:J w w'):vT a c d e j w w' f:=
 ⟨e,j,i,h.ae g,c6.cJ g,fun k b=>⟨b,g.block k (h.cx k b)⟩,fun _ b=>.inl b⟩
theorem qF.msg{u l}(h:qF a b u l)(f:0<l.length)(j:l.length<=1000):∃g c,u=.slice (some (H g)) l.length c/\a<=g/\g<b.heap.size/\rl b g c l.length (rowOf l):=by
 obtain⟨g,c,rfl,k,m,n,d,o⟩:=h.qG f j;refine⟨g,c,rfl,n,d,⟨fun i e=> ?_,k,m,d⟩⟩;rw[o i e];simp[rowOf,e]
theorem ahR(p:ec b h j e d k f i)(t:a<d)(w:c<d)(x:a≠c):
  O 27 #[Z h,A a,A c] b fun m w'=>m=.returned (A (if f.sh a c=true then 10 else if(f.ms a c).length=12 then 8 else 0))/\vT h d k j e b w' (B2 d f a c):=by
 have L:=IV p t w x;have y:=aa (Rr (p.link a c t w x));have P:=(p.tu a c t w x).len;have kM:=fun W (v:J b W)=>ahi ((p.ae v).eK a t)
 have Q:=(bl p.blk).1;have R:=p.cell t;have hcap:=p.cap;have hN:=p.hN;unfold maxLen at hcap;have qh:(0:Int)<=(a:Int):=by simp
 have kC:(a:Int)<(d:Int):=by omega
 have s:=p;unfold B2;rw[<-P]at y;by_cases C:f.sh a c=true
 ·rw[if_pos C]at y⊢;rw[if_pos (show f.sh a c=true\/(f.ms a c).length=12 from .inl C)];go_enter func27,ntmps27;go_wp2_with fail
  refine L.mono ?_;rintro m S ⟨rfl,rfl⟩;go_wp2_with fail
  refine y.o.mono ?_;rintro m U ⟨rfl,v⟩;have z:=aa v;go_wp2;go_ret
  exact⟨rfl,s.same z.o⟩
 have tv:=show f.sh a c=false by cases m:f.sh a c with |false=>rfl|true=>exact absurd m C
 rw[if_neg C]at y⊢;by_cases D:(f.ms a c).length=12
 ·rw[if_pos D]at y⊢;rw[if_pos (show f.sh a c=true\/(f.ms a c).length=12 from .inr D)];go_enter func27,ntmps27;go_wp2_with fail
  refine L.mono ?_;rintro m S ⟨rfl,rfl⟩;go_wp2_with fail
  refine y.o.mono ?_;rintro m U ⟨rfl,v⟩;have z:=aa v;go_wp2;go_ret
  exact⟨rfl,s.same z.o⟩
 rw[if_neg D]at y⊢;rw[if_neg (show ¬(f.sh a c=true\/(f.ms a c).length=12) from fun p=>p.elim C D)];have X:=And.intro D P;go_enter func27,ntmps27;go_wp2_with fail
 refine L.mono ?_;rintro m S ⟨rfl,rfl⟩;go_wp2_with fail
 refine y.o.mono ?_;rintro m U ⟨rfl,v⟩;replace Q:=ae v Q;replace R:=ae v R;have z:=aa v;go_wp2_with fail
 refine(kM _ z.o).mono ?_;rintro m F ⟨u,rfl,hu,M⟩;obtain⟨g,B,Y,dj,eD,N⟩:=hu.msg (by rw[uD];omega) (by rw[uD];omega);rw[uD]at Y;subst Y;have bB:=z.o.trans (M.mono z.o.size);have gr:=And.intro dj (And.intro eD (And.intro N M));have E:=bB.alloc bB.size (.cells #[.iface 115 (.slice (some (H g)) d B)] 147);have RD:=Rv (off:=0) (cap:=1) (n:=1) (g:=F.heap.size) ((s.ae E).link a c t w x) (fun _=>.iface 115 (.slice (some (H g)) d B)) (by omega) (fun q au=>by
  simp_all)
 go_wp2_with fail
 refine RD.mono ?_;rintro m w4 ⟨rfl,rq,uv,hT4⟩;have I:=And.intro uv hT4;go_wp2;go_ret
 obtain⟨dj,eD,N,M⟩:=gr;have bM:=z.o.size;have se:=s.ae E;have yG:=se.zP (I':=fun l=>e l\/l=g) (fun l r=>.inl r) (fun l r=>by
  rcases r with r|rfl
  ·exact se.cx l r
  ·simp only[World.size_alloc];omega) (fun l r hF=>by
  rcases r with r|rfl
  ·exact s.eC l r hF
  have :=s.lt _ hF;omega)
 have hl:=I.1;rw[show rp (f.sh a c) (i.fX a c) ((List.range 1).map fun _=>Value.iface 115 (.slice (some (H g)) d B))=i.fX a c++[.iface 115 (.slice (some (H g)) d B)] by
  have h1:¬(i.fX a c).length=12:=by rw[<-X.2];exact X.1
  simp[rp,h1,aqI,tv]]at hl
 have nb:rn (F.alloc (.cells #[.iface 115 (.slice (some (H g)) d B)] 147)) (fun l=>e l\/l=g) (.inl (km d (f.has a))) (.iface 115 (.slice (some (H g)) d B)):=by
  refine⟨g,B,by rw[uD],?_,.inr rfl⟩;exact N.ae ((apY F.heap.size F).alloc (apX _) _)
 have bw:=yG.Em t w x hl I.2 (eb.snoc nb (yG.tu a c t w x));refine⟨rfl,j,_,_,bw,MC E I.2 (s.dq a c t w x).2,fun l r=>⟨.inl r,?_⟩,fun l r=>r.imp id fun m=>(by omega)⟩;exact(I.2.other l (ap3 (s.cx l r) E.size) fun m=>s.eC l r (m▸(s.dq a c t w x).2)).trans (E.block l (s.cx l r))
theorem hq.taken{f}(e:hq b h a (l::m) f c d):hq (b.setChan a 12 m.toArray f c (d+1) false) h a m f c (d+1):=
 ⟨(MA b _ _ _ _ _ _ (e.ne (i:=0) (v:=.chan (some a)) (by simp[World.cell?,e.blk]))).trans e.blk,by rw[Go.Conc.heap_setChan _ _ _ _ _ _ _ _ (aN e.lA)],by have :=e.len;simp at this;omega⟩
theorem ahS(h:m.length<12):rp false m ((List.range 1).map fun _=>l)=m++[l]:=by
 have a:¬m.length=12:=by omega
 simp[rp,a,aqI]
theorem RE(g:hq b a c m false k h)(q:m.length<12)(f:Value)(r:b.heap[d]?=some (.cells #[f] 147 (0,0))):
  O 53 #[Z a,.slice (some (H d)) 1 1] b fun e l=>e=.returned (.tuple #[])/\∃o,hq l a c (m++[f]) false o h/\aO (fun i=>i=c) b l:=by
 refine(Rv (off:=0) (cap:=1) (n:=1) g (fun _=>f) (by omega) (fun j t=>by
  obtain rfl:j=0:=by omega
  exact WK r)).mono ?_
 rintro e l ⟨rfl,o,p,s⟩;rw[ahS q]at p;exact⟨rfl,o,p,s⟩
theorem Yw{t:TypeId}(f:hq b c a (.iface t l::m) false d h):
  O 80 #[Z c] b fun e j=>(∃u,e=.returned u)/\∃i v,hq j c a (m++[.iface t l]) false i v/\aO (fun k=>k=a) b j:=by
 have n:=aa (Mz f);have w:m.length<12:=by have :=f.len;assumption
 have p:=aa (IM b a 12 m.toArray false d (h+1) false);have q:=aa f.taken;obtain⟨g,x⟩:∃g,b.setChan a 12 m.toArray false d (h+1) false=g:=⟨_,rfl⟩;rw[x]at n p q;have r:=(apY g.heap.size g).alloc (apX _) (.cells #[.iface t l] 147);have y:=RE (q.o.ae r) w (.iface t l) (bI g _);go_enter func80,ntmps80;go_wp2_with fail
 refine n.o.mono ?_;rintro e C ⟨rfl,rfl⟩;go_wp2_with fail
 refine y.mono ?_;rintro e D ⟨rfl,i,z,B⟩;have s:=And.intro z B;go_wp2;go_end0
 exact⟨⟨_,rfl⟩,i,_,s.1,p.o.trans ((aO.cJ r).trans s.2)⟩
theorem ahT{t:TypeId}{v:Value}{l:List Value}(f:hq b c a (.iface t v::l) false d h)(hl:l.length<11)(P:∀u∈l,∃t v,u=.iface t v):
  O 79 #[Z c] b fun e y=>(∃u,e=.returned u)/\∃g q,hq y c a (.iface t v::l++[.iface t v]) false g q/\aO (fun k=>k=a) b y:=by
 have z:=aa (Mz f);have B:=aa (IM b a 12 l.toArray false d (h+1) false);have C:=aa f.taken;have Q:=P;obtain⟨j,R⟩:∃j,b.setChan a 12 l.toArray false d (h+1) false=j:=⟨_,rfl⟩;rw[R]at z B C;have D:=(apY j.heap.size j).alloc (apX _) (.cells #[.iface t v] 147);have S:=RE (C.o.ae D) (by omega) (.iface t v) (bI j _);go_enter func79,ntmps79;go_wp2_with fail
 refine z.o.mono ?_;rintro e w2 ⟨rfl,rfl⟩;go_wp2_with fail
 refine S.mono ?_;rintro e w3 ⟨rfl,g,E,U⟩;have F:=aa (Rq E);rw[ap4,aq1]at F;have I:=And.intro E (B.o.trans ((aO.cJ D).trans U));go_wp2_with fail
 refine F.o.mono ?_;rintro e w4 ⟨rfl,rfl⟩;go_wp2_with fail
 go_loopw [12] (fun i wr=>∃k g q,k<=l.length/\i=A (k:Nat)/\hq wr c a (l.drop k++[.iface t v]++l.take k) false g q/\aO (fun k=>k=a) b wr) (fun i _=>l.length-(intOf i).toNat)
 case atStart=>exact⟨0,g,_,apZ _,rfl,by simpa using I.1,I.2⟩
 case round=>
  obtain⟨k,s2,W,hk,rfl,n,L⟩:=hrel;by_cases p:k<l.length
  ·obtain⟨X,Y,M⟩:=Q l[k] (ap6 p);rw[arP p,M,aqD,aqD]at n;have HLA:=Yw n;have r:=aa L;have r9:=aa (show l.take (k+1)=l.take k++[.iface X Y] by rw[aqp p,M]);go_wp2_with fail
   refine HLA.mono ?_;rintro e w5 ⟨⟨u,rfl⟩,s,apv,w,x⟩;have m:=aa (And.intro w x);go_wp2;go_roundw
   case rel=>
    refine⟨k+1,s,apv,p,by go_num,?_,r.o.trans m.o.2⟩;rw[r9.o];have :=m.o.1;simpa using this
   case measure=>simp[intOf];omega
  have ho:k=l.length:=by omega
  subst ho;rw[List.drop_length,ari]at n;have N:=aa ((apY wr.heap.size wr).alloc (apX _) (.cells #[.iface t v] 147));have l4:=aa (RE (n.ae N.o) (by simp;omega) (.iface t v) (bI wr _));have r:=aa L;go_wp2_with fail
  refine l4.o.mono ?_;rintro e w5 ⟨rfl,s,w,x⟩;have m:=aa (And.intro w x);go_wp2;go_end0
  refine⟨⟨_,rfl⟩,s,W,?_,r.o.trans ((aO.cJ N.o).trans m.o.2)⟩;have :=m.o.1
  assumption
theorem rn.Yx:∀{m:hp} {u:Value},rn b e m u->∃t v,u=.iface t v
 |.inl _,_,⟨_,_,h,_⟩=>⟨_,_,h⟩
 |.inr _,_,⟨_,h,_⟩=>⟨_,_,h⟩
theorem eb.Yy{w:World}{I:Nat->Prop}:∀{b:List hp} {l:List Value},eb (rn w I) b l->∀u∈l,∃t v,u=.iface t v
 |[],[],_,_,a=>by cases a
 |[],_::_,h,_,_=>h.elim
 |_::_,[],h,_,_=>h.elim
 |_::_,_::_,h,u,a=>by
  rcases aqb.1 a with rfl|a
  ·exact h.1.Yx
  exact eb.Yy h.2 u a
def ja (s:bn) (c d:Nat) (l:List hp):bn:={s with ms:=upd s.ms c (upd (s.ms c) d l)}
theorem ec.linked{l u v w}(g:ec b h j e d k f i)(q:a<d)(r:c<d)(s:a≠c)(x:hq n (i.gl a c) (i.gc a c) l (f.sh a c) v w)(t:aO (fun m=>m=i.gc a c) b n)(y:eb (rn b e) u l):vT h d k j e b n (ja f a c u):=
 ⟨j,e,_,g.Em q r s x t y,MC (apY _ _) t (g.dq a c q r s).2,fun m p=>⟨p,t.other m (g.cx m p) fun o=>g.eC m p (o▸(g.dq a c q r s).2)⟩,fun _ p=>.inl p⟩
theorem ec.first{w r F sp x}(h:ec w r F e d sp f x)(j:a<d)(k:c<d)(n:a≠c){m:hp}{g:List hp}(o:f.ms a c=m::g):∃t v l,x.fX a c=.iface t v::l/\rn w e m (.iface t v)/\eb (rn w e) g l/\g.length=l.length/\∀u∈l,∃t v,u=.iface t v:=by
 have b:=h.tu a c j k n;rw[o]at b;cases i:x.fX a c with
 |nil=>rw[i]at b;exact b.elim
 |cons u l=>
  rw[i]at b;obtain⟨t,v,rfl⟩:=b.1.Yx;exact⟨t,v,l,rfl,b.1,b.2,b.2.len,b.2.Yy⟩
def Ab (s:bn) (c d:Nat):bn:=match s.ms c d with
 |[]=>s
 |_::l=>ja s c d l
def B5 (s:bn) (c d:Nat):bn:=match s.ms c d with
 |[]=>s
 |m::l=>if s.sh c d=true then s else ja s c d (l++[m])
def B6 (s:bn) (c d:Nat):bn:=match s.ms c d with
 |[]=>s
 |m::l=>if s.sh c d=true\/l.length=11 then s else ja s c d (m::l++[m])
theorem ahU(g:ec b h e j d k f i)(p:a<d)(q:c<d)(r:a≠c):O 41 #[Z h,A a,A c] b fun n x=>n=.returned (A (if f.ms a c=[] then 12 else 0))/\vT h d k e j b x (Ab f a c):=by
 have s:=aa (MB g p q r);unfold Ab;cases w:f.ms a c with
 |nil=>
  rw[if_pos w]at s;rw[if_pos rfl];go_enter func41,ntmps41;go_wp2_with fail
  refine s.o.mono ?_;rintro n y ⟨rfl,rfl⟩;go_wp2;go_ret
  exact⟨rfl,g.same (apY _ _)⟩
 |cons m z=>
  rw[if_neg (by simp_all)]at s;obtain⟨t,v,l,B,E,C,_,_⟩:=g.first p q r w
  have u:=g.link a c p q r;rw[B]at u;have D:=g.linked p q r u.taken (IM b _ 12 l.toArray (f.sh a c) _ _ false) C;rw[if_neg (show ¬m::z=[] by simp)];go_enter func41,ntmps41;go_wp2_with fail
  refine s.o.mono ?_;rintro n y ⟨rfl,rfl⟩;go_wp2_with fail
  refine(Mz u).mono ?_;rintro n F ⟨rfl,rfl⟩;go_wp2;go_ret
  exact⟨rfl,D⟩
theorem ahV(g:ec b h e j d k f i)(s:a<d)(w:c<d)(x:a≠c):O 43 #[Z h,A a,A c] b fun n D=>n=.returned (A (if f.ms a c=[] then 12 else if f.sh a c=true then 10 else 0))/\vT h d k e j b D (B5 f a c):=by
 have q:=aa (MB g s w x);unfold B5;cases z:f.ms a c with
 |nil=>
  rw[if_pos z]at q;rw[if_pos rfl];have p:=aa g;go_enter func43,ntmps43;go_wp2_with fail
  refine q.o.mono ?_;rintro n B ⟨rfl,rfl⟩;go_wp2;go_ret
  exact⟨rfl,p.o.same (apY _ _)⟩
 |cons m E=>
  rw[if_neg (by simp_all)]at q;obtain⟨t,v,l,F,I,L,_,_⟩:=g.first s w x z
  have r:=g.link a c s w x;rw[F]at r;rw[if_neg (show ¬m::E=[] by simp)];by_cases M:f.sh a c=true
  ·have N:b.cell? (K (i.gl a c) 1)=some (.bool true):=by simp[World.cell?,r.blk,M]
   have p:=aa g;go_enter func43,ntmps43;go_wp2_with fail
   refine q.o.mono ?_;rintro n B ⟨rfl,rfl⟩;go_wp2;go_ret
   exact⟨rfl,p.o.same (apY _ _)⟩
  have y:f.sh a c=false:=by simp_all
  have N:b.cell? (K (i.gl a c) 1)=some (.bool false):=by simp[World.cell?,r.blk,y]
  rw[y]at r;have P:=y;have Q:=Yw r;have p:=aa (And.intro g (And.intro I L));go_enter func43,ntmps43;go_wp2_with fail
  refine q.o.mono ?_;rintro n B ⟨rfl,rfl⟩;go_wp2_with fail
  refine Q.mono ?_;rintro n U ⟨⟨u,rfl⟩,W,X,R,S⟩;have C:=And.intro R S;go_wp2;go_ret
  exact⟨rfl,p.o.1.linked s w x (by rw[P];exact C.1) C.2 (eb.snoc p.o.2.1 p.o.2.2)⟩
theorem ahW(n:ec b h e j d k f i)(E:a<d)(F:c<d)(I:a≠c):O 42 #[Z h,A a,A c] b fun p X=>p=.returned (A (if f.ms a c=[] then 12 else if f.sh a c=true then 10 else if(f.ms a c).length=12 then 8 else 0))/\vT h d k e j b X (B6 f a c):=by
 have B:=aa (MB n E F I);unfold B6;cases L:f.ms a c with
 |nil=>
  rw[if_pos L]at B;rw[if_pos rfl];have r:=aa n;go_enter func42,ntmps42;go_wp2_with fail
  refine B.o.mono ?_;rintro p N ⟨rfl,rfl⟩;go_wp2;go_ret
  exact⟨rfl,r.o.same (apY _ _)⟩
 |cons m x=>
  rw[if_neg (by simp_all)]at B;obtain⟨t,v,l,Y,h1,h2,r0,hfc⟩:=n.first E F I L
  have D:=n.link a c E F I;rw[Y]at D;have w:=aa (Rr D);simp only[aqk]at w;have hlen:=D.len;simp only[aqk]at hlen;rw[if_neg (show ¬m::x=[] by simp)];by_cases C:f.sh a c=true
  ·simp only[if_pos C,if_pos (show f.sh a c=true\/x.length=11 from .inl C)];rw[if_pos C]at w;have r:=aa n;go_enter func42,ntmps42;go_wp2_with fail
   refine B.o.mono ?_;rintro p N ⟨rfl,rfl⟩;go_wp2_with fail
   refine w.o.mono ?_;rintro p R ⟨rfl,z⟩;have q:=aa z;go_wp2;go_ret
   exact⟨rfl,r.o.same q.o⟩
  have S:f.sh a c=false:=by simp_all
  rw[if_neg C]at w;simp only[if_neg C];rw[S]at D;have IX:=S;by_cases M:x.length=11
  ·simp only[if_pos (show f.sh a c=true\/x.length=11 from .inr M)];have P:l.length+1=12:=by omega
   rw[if_pos P]at w;rw[if_pos (show(m::x).length=12 by simp[M])];have r:=aa n;go_enter func42,ntmps42;go_wp2_with fail
   refine B.o.mono ?_;rintro p N ⟨rfl,rfl⟩;go_wp2_with fail
   refine w.o.mono ?_;rintro p R ⟨rfl,z⟩;have q:=aa z;go_wp2;go_ret
   exact⟨rfl,r.o.same q.o⟩
  simp only[if_neg (show ¬(f.sh a c=true\/x.length=11) from fun n=>n.elim C M)];have P:¬l.length+1=12:=by omega
  rw[if_neg P]at w;rw[if_neg (show ¬(m::x).length=12 by simp[M])];have ahX:l.length<11:=by omega
  have gE:=fun W (z:J b W)=>ahT (D.ae z) ahX hfc
  have r:=aa (And.intro n (And.intro h1 h2));go_enter func42,ntmps42;go_wp2_with fail
  refine B.o.mono ?_;rintro p N ⟨rfl,rfl⟩;go_wp2_with fail
  refine w.o.mono ?_;rintro p R ⟨rfl,z⟩;have q:=aa z;go_wp2_with fail
  refine(gE _ q.o).mono ?_;rintro p w3 ⟨⟨u,rfl⟩,s',yE,jj,hM⟩;have U:=And.intro jj hM;go_wp2;go_ret
  obtain⟨aR,I',x',bw,ck,Q⟩:=((r.o.1.ae q.o).linked E F I (by rw[IX];exact U.1) U.2 (eb.snoc (l:=_::_) (m:=_::_) (r.o.2.1.ft (fun g s=>q.o.block g (r.o.1.cx g s)) q.o.size (fun _ y=>y)) ⟨r.o.2.1.ft (fun g s=>q.o.block g (r.o.1.cx g s)) q.o.size (fun _ y=>y),r.o.2.2.imp fun m u L=>L.ft (fun g s=>q.o.block g (r.o.1.cx g s)) q.o.size (fun _ y=>y)⟩));exact⟨rfl,aR,I',x',bw,ck.before q.o,fun g s=>⟨(Q.1 g s).1,(Q.1 g s).2.trans (q.o.block g (r.o.1.cx g s))⟩,fun g s=>(Q.2 g s).imp id fun n=>ap0 q.o.size n⟩
end
section
variable {a:Nat->List ar}{b h:Nat}{c:List ar}{d i:ar}{e:List (PId×ar)}{f:Nat->Int}
structure iO (N:Nat) (M:Nat->List ar):Prop where
 id:∀c,c<N->∀i (hi:i<(M c).length),(M c)[i].op.id.2=(c:Int)/\(M c)[i].op.nth=(i:Int)+1/\1<=(M c)[i].op.id.1
 len:∀c,c<N->(M c).length<=60
 jB:∀c,c<N->(M c).Pairwise fun a b=>a.op.id.1<b.op.id.1
def nc (N:Nat) (M:Nat->List ar) (x:ar):Prop:=∃c,c<N/\x∈M c
def oD (M:Nat->List ar) (has:Nat->Int) (N:Nat):List ar:=(List.range N).flatMap fun(c:Nat)=>(M c).take (has c).toNat
structure lK (N:Nat) (M:Nat->List ar) (gt:Int) (has:Nat->Int) (ops:List ar) (early:List (PId×ar)):Prop where
 km:∀c,c<N->0<=has c/\has c<=(M c).length
 perm:ops.Perm (oD M has N)
 yH:∀o∈ops,o.op.id.1<=gt
 Gm:∀p∈early,nc N M p.2/\p.1=en p.2
 RG:(early.map (·.1)).Nodup
theorem Ac(M:Nat->List ar)(has:Nat->Int)(n:Nat):oD M has (n+1)=oD M has n++(M n).take (has n).toNat:=by
 unfold oD;rw[aqI,aqG];simp
theorem Gn{has:Nat->Int}{n:Nat}:d∈oD a has n↔∃c,c<n/\d∈(a c).take (has c).toNat:=by
 unfold oD;simp
theorem Yz{M M':Nat->List ar}{a has':Nat->Int}:∀{n:Nat},(∀c,c<n->(M c).take (a c).toNat=(M' c).take (has' c).toNat)->oD M a n=oD M' has' n
 |0,_=>rfl
 |n+1,h=>by rw[Ac,Ac,Yz fun c b=>h c (by omega),h n (by omega)]
theorem iO.nodup(g:iO b a){c:Nat}(i:c<b):(a c).Nodup:=(g.jB c i).imp fun{d f} h e=>by simp_all
theorem iO.at{N}(d:iO N a){x:ar}{c:Nat}(e:c<N)(f:x∈a c):∃i,∃b:i<(a c).length,x=(a c)[i]/\x.op.id.2=(c:Int)/\x.op.nth=(i:Int)+1/\1<=x.op.id.1:=by
 obtain⟨i,b,rfl⟩:=aqv.1 f;obtain⟨g,h,j⟩:=d.id c e i b;exact⟨i,b,rfl,g,h,j⟩
theorem iO.YA(l:iO b a)(g:nc b a d)(k:nc b a i)(h:en d=en i):d=i:=by
 obtain⟨c,m,g⟩:=g;obtain⟨e,n,k⟩:=k;obtain⟨f,p,q,r,s,_⟩:=l.at m g;obtain⟨j,t,u,v,w,_⟩:=l.at n k;injection h with x y;have o:c=e:=by omega
 subst o;have z:f=j:=by omega
 simp_all
theorem iO.ahY(g:iO b a)(l:nc b a d)(m:nc b a i)(h:d.op.id=i.op.id):d=i:=by
 obtain⟨c,n,l⟩:=l;obtain⟨f,q,m⟩:=m;obtain⟨e,o,t,r,u,_⟩:=g.at n l;obtain⟨j,p,v,w,x,_⟩:=g.at q m;have s:c=f:=by rw[h]at r;omega
 subst s;rcases Nat.lt_trichotomy e j with k|k|k
 ·have :=aqT.1 (g.jB c n) e j o p k
  simp_all
 ·simp_all
 have :=aqT.1 (g.jB c n) j e p o k
 simp_all
theorem iO.YB{N M}(d:iO N M){has:Nat->Int}:∀{n:Nat},n<=N->(oD M has n).Nodup
 |0,_=>by simp[oD]
 |n+1,i=>by
  rw[Ac];refine aqF.2 ⟨iO.YB d (n:=n) (by omega),(d.nodup (c:=n) (by omega)).sublist (List.take_sublist _ _),fun a f b g e=> ?_⟩;subst e;obtain⟨c,j,h⟩:=Gn.1 f;obtain⟨_,_,_,k,_⟩:=d.at (c:=c) (by omega) (aqE h);obtain⟨_,_,_,l,_⟩:=d.at (c:=n) (by omega) (aqE g);omega
theorem iO.YC{N M}(a:iO N M){has:Nat->Int}:∀{n:Nat},n<=N->(oD M has n).length<=n*60
 |0,_=>by simp[oD]
 |n+1,b=>by
  have c:=iO.YC a (has:=has) (n:=n) (by omega);have d:=a.len n (by omega);rw[Ac,ap4,aqZ];have :((M n).take (has n).toNat).length<=(M n).length:=by rw[aqg];omega
  omega
theorem lK.made{gt has e early}(h:lK b a gt has e early)(f:d∈e):nc b a d:=by
 obtain⟨c,g,i⟩:=Gn.1 (h.perm.mem_iff.1 f);exact⟨c,g,aqE i⟩
theorem lK.jl{gt has early}(d:iO b a)(h:lK b a gt has c early):c.Nodup:=h.perm.nodup_iff.2 (d.YB (apX _))
theorem lK.ahZ{gt early}(i:iO b a)(h:lK b a gt f c early):(c.map en).Nodup:=by
 refine aqN.2 (List.Pairwise.imp_of_mem (fun{d g} j k l e=>l ?_) (h.jl i));exact i.YA (h.made j) (h.made k) e
theorem lK.YD{gt has early}(g:iO b a)(h:lK b a gt has c early):(c.map fun o=>o.op.id).Nodup:=by
 refine aqN.2 (List.Pairwise.imp_of_mem (fun{d f} i j k e=>k ?_) (h.jl g));exact g.ahY (h.made i) (h.made j) e
theorem lK.len{N gt early}(b:iO N a)(h:lK N a gt f c early):c.length<=N*60:=by rw[h.perm.length_eq];exact b.YC (apX _)
theorem lK.copy{gt has e early}(f:iO b a)(h:lK b a gt has e early)(g:d∈e):0<=d.op.id.2/\d.op.id.2<b:=by
 obtain⟨c,i,j⟩:=h.made g;obtain⟨_,_,_,k,_⟩:=f.at i j;omega
theorem lK.mem{gt m early}(l:iO b a)(h:lK b a gt f m early)(q:nc b a d):d∈m↔d.op.nth<=f d.op.id.2.toNat:=by
 rw[h.perm.mem_iff,Gn];obtain⟨c,n,r⟩:=q;obtain⟨i,x,e,y,z,_⟩:=l.at n r;have s:d.op.id.2.toNat=c:=by omega
 rw[s];constructor
 ·rintro⟨g,o,p⟩;obtain⟨j,B,C,D,E,_⟩:=l.at (c:=g) o (aqE p);have t:g=c:=by omega
  subst t;obtain⟨k,u,F⟩:=aqv.1 p;rw[aqg]at u;have v:k<(a g).length:=by omega
  have :(a g)[k]=d:=by simp_all
  obtain⟨_,w,_⟩:=l.id g o k v;rw[this]at w;omega
 intro I;refine⟨c,n,aqv.2 ⟨i,?_,?_⟩⟩
 ·rw[aqg];omega
 simp_all
theorem YE:∀{l m:List ar},qA l->qA m->l.Perm m->l=m
 |[],m,_,_,c=>c.nil_eq
 |a::l,[],_,_,c=>absurd c.length_eq (by simp)
 |a::l,b::m,e,f,c=>by
  obtain⟨g,i⟩:=aqU.1 e;obtain⟨j,k⟩:=aqU.1 f;have n:a=b:=by
   rcases aqb.1 (c.mem_iff.1 (aqf (a:=a) (l:=l))) with h|h
   ·exact h
   rcases aqb.1 (c.mem_iff.2 (aqf (a:=b) (l:=m))) with d|d
   ·simp_all
   have :=BE (g b d) (j a h);rw[uw]at this;cases this
  subst n;rw[YE i k c.cons_inv]
def si (N:Nat) (M:Nat->List ar) (m:List (PId×ar)):Prop:=∀p∈m,nc N M p.2/\p.1=en p.2
theorem si.all{has:Nat->Int}{xs:List ar}(h:si b a e)(f:∀x∈xs,nc b a x):si b a (iB has e xs):=fun p d=>by
 rcases XR d with c|⟨x,c,rfl⟩
 ·exact h p c
 simp_all
theorem iO.nth{N M x}(a:iO N M)(d:nc N M x):1<=x.op.nth/\x.op.nth<=60/\0<=x.op.id.2/\x.op.id.2<N:=by
 obtain⟨c,b,f⟩:=d;obtain⟨i,g,e,h,j,_⟩:=a.at b f;have :=a.len c b;omega
theorem iO.eZ(g:iO b a)(j:nc b a d){c k:Nat}(h:en d=((c:Int),(k:Int)+1)):∃p:k<(a c).length,d=(a c)[k]:=by
 obtain⟨f,l,m⟩:=j;obtain⟨i,q,e,r,s,_⟩:=g.at l m;injection h with t u;have n:f=c:=by omega
 subst n;have o:i=k:=by omega
 subst o
 simp_all
theorem YF(l:iO b a)(m:si b a e)(c:Nat){n:Int}(r:0<=n)(f:Nat):il e (c:Int) n f=((a c).drop n.toNat).take (il e (c:Int) n f).length:=by
 have h:=fun j o=>by
  obtain⟨g,i⟩:=m _ (fL (run_get e c f n j o));exact l.eZ g (c:=c) (k:=n.toNat+j) (by rw[<-i];show((c:Int),n+1+(j:Int))=_;congr 1;omega)
 apply arF
 ·rw[aqg,aqA];rcases Nat.eq_zero_or_pos (il e (c:Int) n f).length with p|p
  ·omega
  obtain⟨q,_⟩:=h ((il e (c:Int) n f).length-1) (by omega);omega
 intro j g i;obtain⟨q,d⟩:=h j g
 simp_all
theorem ah0(c:Nat->Int)(a b:List ar):hasAll c (a++b)=hasAll (hasAll c a) b:=by
 unfold hasAll;simp
theorem YG{c:Nat}:∀(l:List ar) (h:Nat->Int) (n:Int),h c=n->(∀j (f:j<l.length),l[j].op.id.2=(c:Int)/\l[j].op.nth=n+1+(j:Int))->hasAll h l=fun i=>if i=c then n+(l.length:Int) else h i
 |[],h,n,b,_=>by
  funext i;by_cases a:i=c
  ·subst a;simp[hasAll,b]
  simp[hasAll,a]
 |x::l,h,n,b,d=>by
  have g:=d 0 (by simp);simp only[asJ]at g;have k:x.op.id.2.toNat=c:=by omega
  have e:hasAll h (x::l)=hasAll (upd h c (n+1)) l:=by
   show hasAll (upd h x.op.id.2.toNat x.op.nth) l=_
   simp_all
  rw[e,YG (c:=c) l (upd h c (n+1)) (n+1) (by simp[upd]) fun j f=>by
   have :=d (j+1) (by simp_all);simp only[asq]at this;omega]
  funext i;by_cases a:i=c
  ·simp[a];omega
  simp[a,upd]
def sj (m:List (PId×ar)) (a:Nat->Int) (n:Nat) (c:Nat):Int:=if c<n then a c+((il m (c:Int) (a c) 61).length:Int) else a c
theorem IY{N M m}{has:Nat->Int}(a:si N M m):∀n,n<=N->hasAll has (iL m has n)=sj m has n
 |0,_=>by
  rfl
 |n+1,g=>by
  rw[Mh,ah0,IY a n (by omega)];rw[YG (c:=n) (il m (n:Int) (has n) 61) (sj m has n) (has n) (by simp[sj]) fun j b=>by
   obtain⟨h,d⟩:=a _ (fL (run_get m n 61 (has n) j b));injection d with e f;exact⟨e.symm,f.symm⟩]
  funext i;unfold sj;by_cases k:i=n
  ·simp_all
  omega
theorem ah1{gt early}(j:iO h a)(d:lK h a gt f c early)(k:si h a e)(l:b<h){n:Nat}:(a b).take (sj e f n b).toNat=if b<n then(a b).take (f b).toNat++il e (b:Int) (f b) 61 else(a b).take (f b).toNat:=by
 unfold sj;have m:=(d.km b l).1;by_cases i:b<n
 ·rw[if_pos i,if_pos i];have g:(f b+((il e (b:Int) (f b) 61).length:Int)).toNat=(f b).toNat+(il e (b:Int) (f b) 61).length:=by omega
  rw[g,List.take_add,<-YF j k b m 61]
 rw[if_neg i,if_neg i]
theorem MD{gt has early}(f:iO h a)(d:lK h a gt has c early)(g:si h a e)(i:b<h):0<=sj e has h b/\sj e has h b<=(a b).length/\has b<=sj e has h b:=by
 have j:=d.km b i;have k:=congrArg List.length (YF f g b j.1 61);rw[aqg,aqA]at k;unfold sj;omega
theorem YH{N M gt a d early m}(b:iO N M)(h:lK N M gt a d early)(c:si N M m):∀n,n<=N->(oD M (sj m a N) n).Perm (iL m a n++oD M a n)
 |0,_=>by rfl
 |n+1,e=>by
  rw[Ac,Ac,Mh,ah1 b h c (by omega),if_pos (by omega)];refine((YH b h c n (by omega)).append_right _).trans ?_;simp only[aqs];refine asx _ ?_;rw[<-aqs];exact asy
theorem ME:∀(a:List ar) (gt:Int),gt<=nB gt a/\∀x∈a,x.op.id.1<=nB gt a
 |[],gt=>⟨ary _,fun x b=>by cases b⟩
 |y::a,gt=>by
  obtain⟨c,d⟩:=ME a (max gt y.op.id.1);have e:nB gt (y::a)=nB (max gt y.op.id.1) a:=rfl;rw[e];refine⟨by omega,fun x b=> ?_⟩;rcases aqb.1 b with rfl|b
  ·omega
  simp_all
theorem YI{g:Int}:∀(a:List ar) (gt:Int),gt<=g->(∀x∈a,x.op.id.1<=g)->nB gt a<=g
 |[],gt,h,_=>h
 |y::a,gt,h,b=>YI a (max gt y.op.id.1) (by have :=b y aqf;omega) fun x c=>b x (aqh _ c)
theorem lK.heard{gt has early m}(g:iO b a)(h:lK b a gt has c early){m':List (PId×ar)}(e:si b a m)(j:∀p∈m',p∈m)(k:(m'.map (·.1)).Nodup):
  lK b a (nB gt (iL m has b)) (hasAll has (iL m has b)) (iZ c (iL m has b)) m':=by
 rw[IY e b (apX _)];refine⟨fun d i=>⟨(MD g h e i).1,(MD g h e i).2.1⟩,(BF _ _).trans ((asx _ h.perm).trans (YH g h e b (apX _)).symm),fun o f=> ?_,fun p l=>e p (j p l),k⟩;obtain⟨n,q⟩:=ME (iL m has b) gt;rcases ap7.1 ((BF _ _).mem_iff.1 f) with f|f
 ·simp_all
 have :=h.yH o f;omega
end
section
open Go.RowKit Tryz
attribute [local go_sem ↓] Go.wp_at_zero Go.wp_at_succ
variable {a c e f h:Nat}{b:World}{d:Value}
def Gp:List hp->List hp->List hp
 |l,[]=>l
 |l,m::a=>Gp (if l.length=12 then l else l++[m]) a
theorem eb.Eh{R:hp->Value->Prop}:∀{f:List hp} {us:List Value} {d:List hp} {c:List Value},eb R d c->eb R f us->eb R (Gp d f) (rp false c us)
 |[],[],_,_,h,_=>h
 |[],_::_,_,_,_,a=>a.elim
 |_::_,[],_,_,_,a=>a.elim
 |b::f,u::us,d,c,h,a=>by
  unfold Gp rp;have i:=h.len;by_cases e:d.length=12
  ·have g:c.length=12:=by omega
   simp only[e,g,if_true,or_true];exact eb.Eh h a.2
  have g:¬c.length=12:=by omega
  simp only[e,g,if_false,aqM,or_false];exact eb.Eh (eb.snoc a.1 h) a.2
theorem YJ:∀(a l:List Value),rp true l a=l
 |[],_=>rfl
 |u::a,l=>by
  unfold rp;rw[if_pos (.inl rfl)];exact YJ a l
def vU (a:Bool) (l bs:List hp):List hp:=if a=true then l else Gp l bs
theorem eb.vU{R bs us b c}(a:Bool)(h:eb R b c)(d:eb R bs us):eb R (vU a b bs) (rp a c us):=by
 cases a with
 |true=>rw[YJ];exact h
 |false=>exact h.Eh d
theorem eb.maps {α β γ:Type} {R:α->β->Prop} {d:γ->β->Prop} {f:α->γ}:∀{l:List α} {m:List β},(∀a∈l,∀b,R a b->d (f a) b)->eb R l m->eb d (l.map f) m
 |[],[],_,_=>trivial
 |[],_::_,_,c=>c.elim
 |_::_,[],_,c=>c.elim
 |a::l,b::m,h,c=>⟨h a aqf b c.1,eb.maps (fun a e=>h a (aqh _ e)) c.2⟩
def l5 (s:bn) (c:Nat) (gt:Int) (has:Nat->Int) (ops kept:List ar) (early:List (PId×ar)):bn:={s with gt:=upd s.gt c gt,has:=upd s.has c has,ops:=upd s.ops c ops,kept:=upd s.kept c kept,early:=upd s.early c early}
theorem ah2{l:List Int}{b:Nat->Int}(i:l.length=c)(e:a<c):rowOf (n1 l b c) a=max (rowOf l a) (b a):=by
 have d:a<l.length:=by omega
 have f:a<(n1 l b c).length:=by rw[zS];exact d
 have g:rowOf (n1 l b c) a=(n1 l b c)[a]:=by simp[rowOf,f]
 have h:rowOf l a=l[a]:=by simp[rowOf,d]
 rw[g,h,ID _ _ _ _ d,if_pos e]
def En (s:bn) (d c:Nat) (a:Nat->Int):bn:={s with ll:=upd s.ll d (upd (s.ll d) c fun i=>max (s.ll d c i) (a i))}
theorem ah3(s:bn)(d:Nat)(f:Nat->Nat->Int):({s with gt:=upd s.gt d (s.gt d),has:=upd s.has d (s.has d),ops:=upd s.ops d (s.ops d),gone:=upd s.gone d (s.gone d),kept:=upd s.kept d (s.kept d),early:=upd s.early d (s.early d),ll:=upd s.ll d f}:bn)={s with ll:=upd s.ll d f}:=by
 rw[B1,B1,B1,B1,B1,B1]
theorem YK(a c:Nat):O 53 #[Z a,.slice none 0 c] b fun e d=>e=.returned (.tuple #[])/\d=b:=by
 go_enter func53,ntmps53;go_wp2;refine wp_loop_rounds 1 ?_;rw[rounds_succ];go_wp2;go_end0
 simp
theorem ah4{l q}(m:hq b a c l q e f){o:List Value}{n:Nat}(r:b.ownsRow h 147 1 d n o)(u:n<=1000):
  O 53 #[Z a,d] b fun i p=>i=.returned (.tuple #[])/\∃s,hq p a c (rp q l o) q s f/\aO (fun k=>k=c) b p:=by
 have v:o.length=n:=by have :=r.1;omega
 rcases r.2 with⟨rfl,y⟩|⟨g,cap,z,rfl,B,C,D,E,F,I⟩
 ·have w:o=[]:=by simp_all
  subst w;refine(YK a 0).mono ?_;rintro i p ⟨rfl,rfl⟩;exact⟨rfl,e,m,aO.cJ (apY _ _)⟩
 refine(Rv (off:=0) (cap:=cap) (n:=n) (g:=g) m (fun j=>o.getD j .nilIface) u (fun j L=>by
  have :=arN r j (by omega)
  simp_all)).mono ?_
 rintro i p ⟨rfl,s,t,x⟩;have i:(List.range n).map (fun j=>o.getD j .nilIface)=o:=by
  apply arF
  ·simp[v]
  simp_all
 rw[i]at t;exact⟨rfl,s,t,x⟩
theorem RH{t:TypeId}{f:Nat×Nat}(h:b.heap[a]?=some (.cells #[d] t f)):b.cell? (H a)=some d:=by simp[World.cell?,h]
theorem ah5(a:Option Addr)(n c:Nat)(W:World):(nilAhead 501 115 (.slice a n c) "quire/quire.arrive").run prog W=.ok (some false) W:=by kernel_rfl
theorem ah6(a:Option Addr)(n c:Nat)(W:World):(nilAhead 501 382 (.slice a n c) "quire/quire.arrive").run prog W=.ok (some false) W:=by kernel_rfl
def B7 (e:Nat->Nat->Nat) (r N f:Nat) (F I:Nat->Prop) (w a:World) (g:bn):Prop:=∃b c d,ec a r b c N f g d/\(c6 F b w a/\B3 I c w a)/\d.gc=e
theorem ah7{F I X s x z gk hX}(h:ec b f F I e X s x)(E:c<e)(m:a<e)(L:c≠a)(hW:rl b gk hX e z)(tp:I gk)(iJ:∀i,i<e->0<=z i/\s.has a i<=60)(sd:∀i,i<e->z i<=60)(fb:∀x∈s.kept a,0<=x.op.id.2/\x.op.id.2<e)(cO:((s.kept a).map en).Nodup):
  O 75 #[Z f,.iface 115 (.slice (some (H gk)) e hX),A c,A a] b fun d w'=>(∃v,d=.returned v)/\∃p,p.Perm ((s.kept a).filter (sg z))/\yy p/\B7 x.gc f e X F I b w' (ja (En s a c z) a c (vU (s.sh a c) (s.ms a c) ((Gj p z (s.has a) e).map (IK p)))):=by
 obtain⟨S,Y,xM⟩:=h.z7 a c m E (aqa L);have HQA:=aa (fun W (ab:J b W)=>ahH ((h.ae ab).eK a m) (c:Int) Y (hW.ae ab) tp iJ sd fb cO);obtain⟨bf,bc⟩:=bl h.blk;have a6:=h.cell m;have hcap:=h.cap;have hN:=h.hN;unfold maxLen at hcap;have Mx:(0:Int)<=(a:Int):=by simp
 have My:(a:Int)<(e:Int):=by omega
 have r:=aa h;have MG:=aa (And.intro Y (And.intro xM ((h.eK a m).zO _ (fL Y)).1.1));clear h hW iJ sd fb cO tp Y xM;go_enter func75,ntmps75;have KM:=ah5;have qg:=aa (fun x ao=>(r.o.eK a m).jT.chg x ao);have oM:=aa (fun(B:World) (lJ:dA B (x.eo a) (x.h8 a) I e X a (s.gt a) (s.has a) (s.kept a) (s.early a) {x.q a with ea:=fun j=>if j=S then n1 ((x.q a).ea S) z e else(x.q a).ea j}) (w:aO (fun k=>k=S) b B) (uG:x.h8 a S)=>show ∃M,ec B f F I e X (En s a c z) M/\c6 F F b B/\M.gl=x.gl/\M.gc=x.gc/\M.fX=x.fX by
  have ck:c6 (x.h8 a) (x.h8 a) b B:=⟨w.os,w.tape,w.output,w.size,fun k l hF=>w.other k l fun d=>hF (d▸uG),fun k l=>.inl l⟩;obtain⟨M,n,C,_,aw,cS,iQ,_⟩:=r.o.Yv m lJ ck (fun _ y=>y) (fun _ y=>.inl y) (gone':=s.gone a) (ops':=s.ops a) (nw':=upd (s.ll a) c fun i=>max (s.ll a c i) (z i)) (r.o.ko a m) (r.o.l3 a m) rfl (fun d he hde g U i hi=>by
   by_cases D:d=c
   ·subst D;rw[MG.o.1]at U;cases U;simp only[if_true,bF];rw[ah2 MG.o.2.2 hi,MG.o.2.1 i hi]
   have bp:g≠S:=fun e'=>D (by
    rw[e']at U;have :=(r.o.Ej a m).1 _ _ _ U MG.o.1;omega)
   simp only[if_neg bp];rw[b6 _ _ D];obtain⟨g',gj,aF⟩:=r.o.z7 a d m he hde;rw[U]at gj;cases gj;exact aF i hi)
  have YL:(fun k=>F k\/x.h8 a k)=F:=by
   funext k;exact propext ⟨fun l=>l.elim id (r.o.sub a m k),.inl⟩
  rw[ah3,YL]at n;rw[YL]at C;exact⟨M,n,C,aw,cS,iQ⟩)
 go_wp2_with fail
 go_region_with (first |(go_at_call 273;refine(HQA.o _ (apY _ _).drew).mono ?_;rintro d B ⟨v,aC,p,dr,dh,rfl,P,av,N,lJ,w,uG⟩;obtain⟨M,n,C,Dj,D,mQ⟩:=oM.o B lJ ⟨w.os,w.tape,w.output,w.size,w.other⟩ uG;have aP:=aa (And.intro P (And.intro av (And.intro N (And.intro n (And.intro C (And.intro Dj (And.intro D mQ)))))));have kG:=n.find m E (aqa L) false B (apY _ _);simp only[aqM,if_false]at kG;replace bc:=(bl n.blk).2;have RD:=aa (ah4 (n.link a c m E (aqa L)) N.2.1 (ap0 (Nat.le_of_eq (Mr _ _ _)) (by rw[aq6];omega)));clear P av N lJ w uG n C Dj D mQ))
 all_goals clear bf a6
 all_goals go_wp2_with fail
 all_goals refine RD.o.mono ?_
 all_goals rintro d w2 ⟨rfl,rq,jj,Q⟩
 all_goals(have gI:=aa (And.intro jj Q);clear jj Q)
 all_goals go_wp2
 all_goals go_end0
 all_goals
  obtain⟨P,av,N,n,C,Dj,D,mQ⟩:=aP.o;obtain⟨jj,Q⟩:=gI.o;have hblk:∀k,(Value.slice dr p.length dh).ownBlock=some k->b.heap.size<=k/\k<B.heap.size:=fun k l=>ap1 N.1 k l
  have yG:=n.zP (I':=fun k=>I k\/(Value.slice dr p.length dh).ownBlock=some k) (fun k l=>.inl l) (fun k l=>l.elim (n.cx k) fun R=>(hblk k R).2) (fun k l hF=>l.elim (fun h1=>r.o.eC k h1 hF) fun R=>by have :=(hblk k R).1;have :=r.o.lt k hF;omega);have hlen:p.length<=300:=by
   have h1:=P.length_eq;have R:=aqR (sg z) (s.kept a);have al:=(r.o.eK a m).jT.len;omega
  have xf:∀y∈p,pX B (fun k=>I k\/(Value.slice dr p.length dh).ownBlock=some k) (.iface y.t y.v) y.op.chg:=fun y aA=>(qg.o y (aqL.1 (P.mem_iff.1 aA)).1).ft (fun k l=>C.other k (r.o.cx k l) (r.o.eC k l)) (fun k l=>.inl l)
  have e3:eb (rn B (fun k=>I k\/(Value.slice dr p.length dh).ownBlock=some k)) ((Gj p z (s.has a) e).map (IK p)) aC:=eb.maps (fun j ab u hu=>ahF N.1 hlen xf (fun k l=>.inr l) (ahE ab) hu) N.2.2;have hR2:=yG.Em m E (aqa L) jj Q ((yG.tu a c m E (aqa L)).vU _ e3);refine⟨⟨_,rfl⟩,p,P,av,F,_,_,hR2,⟨?_,fun k l=>⟨.inl l,?_⟩,fun k l=>l.imp id fun R=>(hblk k R).1⟩,D⟩
  ·have c3:=MC (F:=F) (apY _ _) Q (n.dq a c m E (aqa L)).2;exact C.trans c3
  exact(Q.other k (n.cx k l) fun d=>n.eC k l (d▸(n.dq a c m E (aqa L)).2)).trans (C.other k (r.o.cx k l) (r.o.eC k l))
def n4 (s:bn) (d:Nat) (a:List ar):List (PId×ar):=iB (s.has d) (s.early d) a
def nd (N:Nat) (s:bn) (d:Nat) (a:List ar):List ar:=iL (n4 s d a) (s.has d) N
def sk (N:Nat) (s:bn) (d:Nat) (a:List ar) (early:List (PId×ar)):bn:=l5 s d (nB (s.gt d) (nd N s d a)) (hasAll (s.has d) (nd N s d a)) (iZ (s.ops d) (nd N s d a)) (iZ (s.kept d) (nd N s d a)) early
theorem ah8{F I w s x}(h:ec b f F I c w s x)(X:e<c)(q:a<c)(Y:e≠a)(j:List ar)(z:opsV b I d j)(B:∀y∈j,0<=y.op.id.2/\y.op.id.2<c)(C:((n4 s a j).map (·.1)).Nodup)(D:∀p∈n4 s a j,p.1.2<=60)(E:∀i,i<c->0<=s.has a i/\s.has a i<=1000)(L:((nd c s a j++s.kept a).map fun o=>o.op.id).Nodup)(M:(s.kept a).length+(nd c s a j).length<=300)(N:iZ (s.ops a) (nd c s a j)=s.gone a++iZ (s.kept a) (nd c s a j))(P:∀y∈nd c s a j,0<=y.op.id.2/\y.op.id.2<c):
  O 75 #[Z f,.iface 382 d,A e,A a] b fun g w'=>(∃d,g=.returned d)/\∃r,vH (n4 s a j) (qD (n4 s a j) (s.has a) c) r/\B7 x.gc f c w F I b w' (sk c s a j r):=by
 have bL:=aa (fun W (Q:J b W)=>ahI ((h.ae Q).eK a q) j (z.ft (fun k l=>Q.block k (h.cx k l)) (fun _ y=>y)) B C D E L M P (e:Int));obtain⟨dr,dh,rfl,_⟩:=z;obtain⟨bf,bc⟩:=bl h.blk;have a6:=h.cell q;have hcap:=h.cap;have hN:=h.hN;unfold maxLen at hcap;have Mx:(0:Int)<=(a:Int):=aqc _;have My:(a:Int)<(c:Int):=by omega
 have v:=aa h;have ah9:=aa N;clear N;clear h B C D E L M P;go_enter func75,ntmps75;have KM:=ah6;go_wp2_with fail
 go_region_with (first |(go_at_call 308;refine(bL.o _ (apY _ _).drew).mono ?_;rintro g w1 ⟨rfl,aR,fT,r,R,t,S,U⟩;obtain⟨x1,m,n,_,Dj,u,mQ,_⟩:=v.o.RB q R (U.before (apY _ _).drew) (fun _ y=>y) (fun _ y=>.inl y) S ah9.o;have aP:=aa (And.intro t (And.intro m (And.intro n u)));have kG:=m.find q X (aqa Y) false w1 (apY _ _);simp only[aqM,if_false]at kG;replace bc:=(bl m.blk).2;clear R t S U m n Dj u mQ))
 all_goals clear bf a6
 all_goals go_wp2_with fail
 all_goals refine(YK _ _).mono ?_
 all_goals rintro g w2 ⟨rfl,rfl⟩
 all_goals go_wp2
 all_goals go_end0
 all_goals
  obtain⟨t,m,n,u⟩:=aP.o;exact⟨⟨_,rfl⟩,r,t,_,I,x1,m,⟨n,fun k l=>⟨l,n.other k (v.o.cx k l) (v.o.eC k l)⟩,fun _ l=>.inl l⟩,u⟩
end
section
variable {a c f:Nat}{b:Nat->List ar}{d:bn}{e:List ar}{h:Nat->Int}
def IZ (N:Nat) (M:Nat->List ar):hp->Prop
 |.inl l=>l.length=N/\∀i,i<N->0<=rowOf l i/\rowOf l i<=(M i).length
 |.inr a=>∀y∈a,nc N M y
def vV (M:Nat->List ar):Nat->Nat
 |0=>0
 |n+1=>vV M n+(M n).length
def tw (N:Nat) (M:Nat->List ar) (a:Nat->Int) (d:Nat) (l:Nat->Int):Prop:=(∀i,i<N->0<=l i/\l i<=a i)/\∀y∈M d,l d<y.op.nth->∀e,e<N->∀g∈M e,g.op.nth<=l e->g.op.id.1<y.op.id.1
def Ep (N:Nat) (M:Nat->List ar) (a:Nat->Int) (d:Nat):hp->Prop
 |.inl l=>tw N M a d (rowOf l)
 |.inr _=>True
theorem tw.more{has l}(d:tw a b has c l)(f:∀i,i<a->has i<=h i):tw a b h c l:=⟨fun i e=>⟨(d.1 i e).1,aro (d.1 i e).2 (f i e)⟩,d.2⟩
theorem Ep.more{N:Nat}{M:Nat->List ar}{has a:Nat->Int}{d:Nat}(b:∀i,i<N->has i<=a i):∀{m:hp},Ep N M has d m->Ep N M a d m
 |.inl _,h=>tw.more h b
 |.inr _,_=>trivial
theorem tw.max{N M a d l m}(h:tw N M a d l)(k:tw N M a d m):tw N M a d fun i=>Max.max (l i) (m i):=by
 refine⟨fun i b=> ?_,fun y c n e f g j o=> ?_⟩
 ·have :=h.1 i b;have :=k.1 i b;simp only;omega
 simp only at n o;by_cases p:g.op.nth<=l e
 ·exact h.2 y c (by omega) e f g j p
 exact k.2 y c (by omega) e f g j (by omega)
structure ev (N:Nat) (M:Nat->List ar) (s:bn):Prop where
 made:iO N M
 copy:∀c,c<N->lK N M (s.gt c) (s.has c) (s.ops c) (s.early c)
 own:∀c,c<N->s.has c c=(M c).length
 jB:∀c,c<N->qA (s.ops c)
 vW:∀c,c<N->0<=s.gt c/\∀g:Int,(∀e,e<N->∀y∈M e,y.op.id.1<=g)->0<=g->s.gt c<=g
 cnt:∀e,e<N->∀y∈M e,y.op.id.1<=(vV M N:Int)
 msgs:∀c d,c<N->d<N->c≠d->∀m∈s.ms c d,IZ N M m
 l3:∀c,c<N->s.ops c=s.gone c++s.kept c
 tx:∀c d,c<N->d<N->c≠d->∀m∈s.ms c d,Ep N M (s.has c) c m
 Er:∀c d,c<N->d<N->c≠d->tw N M (s.has d) d (s.ll c d)
 Es:∀c,c<N->∀g∈s.gone c,∀d,d<N->g.op.nth<=s.has d g.op.id.2.toNat
 Et:∀c,c<N->∀g∈s.gone c,∀d,d<N->∀y∈M d,s.has c d<y.op.nth->g.op.id.1<y.op.id.1
theorem ev.ms{N}(h:ev N b d){c:Nat}{l:List hp}(p:∀m∈l,IZ N b m)(q:∀m∈l,Ep N b (d.has c) c m):ev N b (ja d c a l):=by
 refine⟨h.made,h.copy,h.own,h.jB,h.vW,h.cnt,fun e f i j k m g=> ?_,h.l3,fun e f i j k m g=> ?_,h.Er,h.Es,h.Et⟩
 all_goals(unfold ja at g;simp only at g)
 rotate_left
 ·by_cases n:e=c
  ·subst n;by_cases o:f=a
   ·subst o;rw[bF,bF]at g;exact q m g
   rw[bF,b6 _ _ o]at g;exact h.tx e f i j k m g
  rw[b6 _ _ n]at g;exact h.tx e f i j k m g
 by_cases n:e=c
 ·subst n;by_cases o:f=a
  ·subst o;rw[bF,bF]at g;exact p m g
  rw[bF,b6 _ _ o]at g;exact h.msgs e f i j k m g
 rw[b6 _ _ n]at g;exact h.msgs e f i j k m g
theorem RI(b:a<c):rowOf (km c h) a=h a:=by simp[rowOf,km,b]
theorem ev.ask(h:ev c b d)(g:a<c)(k:f<c)(l:a≠f):ev c b (B2 c d a f):=by
 unfold B2;split
 ·exact h
 refine h.ms (fun m e=> ?_) (fun m e=> ?_)
 ·rcases ap7.1 e with e|e
  ·exact h.msgs a f g k l m e
  obtain rfl:=ap9.1 e;refine⟨uD _ _,fun i j=> ?_⟩;rw[RI j];exact(h.copy a g).km i j
 rcases ap7.1 e with e|e
 ·exact h.tx a f g k l m e
 obtain rfl:=ap9.1 e;refine⟨fun i j=> ?_,fun y n o=> ?_⟩
 ·rw[RI j];exact⟨((h.copy a g).km i j).1,ary _⟩
 exfalso;rw[RI g,h.own a g]at o;obtain⟨i,j,_,_,p,_⟩:=h.made.at g n;omega
theorem ev.I0(h:ev f b d)(j:a<f)(k:c<f)(n:a≠c):ev f b (Ab d a c):=by
 have o:=h.msgs a c j k n;have p:=h.tx a c j k n;unfold Ab;split
 ·exact h
 rename_i m l e
 rw[e]at o p;exact h.ms (fun g i=>o g (aqh _ i)) (fun g i=>p g (aqh _ i))
theorem ev.later(h:ev f b d)(j:a<f)(k:c<f)(n:a≠c):ev f b (B5 d a c):=by
 have o:=h.msgs a c j k n;have p:=h.tx a c j k n;unfold B5;split
 ·exact h
 rename_i m l e
 rw[e]at o p;split
 ·exact h
 have q:∀g,g∈l++[m]->g∈m::l:=fun g i=>by
  rcases ap7.1 i with i|i
  ·exact aqh _ i
  obtain rfl:=ap9.1 i;exact aqf
 exact h.ms (fun g i=>o g (q g i)) (fun g i=>p g (q g i))
theorem ev.again(h:ev f b d)(j:a<f)(k:c<f)(n:a≠c):ev f b (B6 d a c):=by
 have o:=h.msgs a c j k n;have p:=h.tx a c j k n;unfold B6;split
 ·exact h
 rename_i m l e
 rw[e]at o p;split
 ·exact h
 have q:∀g,g∈m::l++[m]->g∈m::l:=fun g i=>by
  rcases ap7.1 i with i|i
  ·exact i
  obtain rfl:=ap9.1 i;exact aqf
 exact h.ms (fun g i=>o g (q g i)) (fun g i=>p g (q g i))
theorem YN{m:hp}:∀{a c:List hp},m∈Gp c a->m∈c\/m∈a
 |[],_,h=>.inl h
 |b::a,c,h=>by
  unfold Gp at h;rcases YN h with h|h
  ·split at h
   ·exact .inl h
   rcases ap7.1 h with h|h
   ·exact .inl h
   exact .inr (by rw[ap9.1 h];exact aqf)
  exact .inr (aqh _ h)
theorem YO{m:hp}{c:Bool}{a b:List hp}(h:m∈vU c b a):m∈b\/m∈a:=by
 unfold vU at h;split at h
 ·exact .inl h
 exact YN h
def tz (N:Nat) (s:bn) (c d:Nat) (e:bn):Prop:=match s.ms c d with
 |[]=>e=s
 |.inl l::a=>∃b,b.Perm ((s.kept d).filter (sg (rowOf l)))/\yy b/\e=ja (En (ja s c d a) d c (rowOf l)) d c (vU (s.sh d c) ((ja s c d a).ms d c) ((Gj b (rowOf l) (s.has d) N).map (IK b)))
 |.inr f::a=>∃g,vH (n4 s d f) (qD (n4 s d f) (s.has d) N) g/\e=sk N (ja s c d a) d f g
theorem ev.wait{N}(h:ev N b d)(c:a<N)(f:∀y∈e,nc N b y):si N b (n4 d a e)/\((n4 d a e).map (·.1)).Nodup:=⟨si.all (h.copy a c).Gm f,XS (h.copy a c).RG⟩
theorem YP{x:ar}:∀{g l:List ar},(∀y∈g,e2 y.op.id x.op.id=true)->lI x (g++l)=g++lI x l
 |[],_,_=>rfl
 |y::g,l,h=>by
  have e:lI x (y::(g++l))=y::lI x (g++l):=if_pos (h y aqf);show lI x (y::(g++l))=y::(g++lI x l);rw[e,YP fun z a=>h z (aqh _ a)]
theorem YQ{g:List ar}:∀{a l:List ar},(∀x∈a,∀y∈g,e2 y.op.id x.op.id=true)->iZ (g++l) a=g++iZ l a
 |[],_,_=>rfl
 |x::a,l,h=>by
  show iZ (lI x (g++l)) a=g++iZ (lI x l) a;rw[YP (h x aqf),YQ fun z b=>h z (aqh _ b)]
theorem aia{m}{has:Nat->Int}{y:ar}(h:si a b m)(d:y∈iL m has c):has y.op.id.2.toNat<y.op.nth:=by
 unfold iL at d;obtain⟨i,_,k⟩:=aqq.1 d;obtain⟨j,l,e⟩:=aqv.1 k;have f:=run_get m (i:Int) 61 (has i) j l;rw[e]at f;have g:=(h _ (fL f)).2;unfold en at g;injection g with n o;rw[<-n,<-o,ar4];omega
theorem ev.ahead(h:ev c b d)(j:a<c)(s:∀y∈e,nc c b y):iZ (d.ops a) (nd c d a e)=d.gone a++iZ (d.kept a) (nd c d a e):=by
 obtain⟨k,_⟩:=h.wait j s;rw[h.l3 a j];refine YQ fun y l g t=> ?_
 have m:=aia k l;obtain⟨p,u,f⟩:=Ml l;have n:=(k p u).1;rw[f]at n;obtain⟨o,q,r⟩:=n;obtain⟨i,v,_,w,x,_⟩:=h.made.at q r;have :=h.Et a j g t o q y r (by rw[show y.op.id.2.toNat=o by omega]at m;exact m);exact(qz _ _).2 (.inl this)
theorem ev.hear{x}(h:ev c b d)(E:a<c)(F:∀y∈e,nc c b y)(I:vH (n4 d a e) (qD (n4 d a e) (d.has a) c) x):ev c b (sk c d a e x)/\((nd c d a e++d.ops a).map fun o=>o.op.id).Nodup:=by
 obtain⟨s,W⟩:=h.wait E F;have L:=(h.copy a E).heard h.made s I.sub I.jl;have M:((nd c d a e++d.ops a).map fun o=>o.op.id).Nodup:=((BF (nd c d a e) (d.ops a)).map _).nodup_iff.1 (L.YD h.made);have u:∀f i,f<c->i<c->d.has f i<=(sk c d a e x).has f i:=fun f i n t=>by
  unfold sk l5;by_cases j:f=a
  ·subst j;simp only[bF];have z:=IY (has:=d.has f) s c (apX _);show _<=hasAll (d.has f) (nd c d f e) i;unfold nd;rw[z];exact(MD h.made (h.copy f n) s t).2.2
  simp only[b6 _ _ j];exact ary _
 refine⟨⟨h.made,fun f n=> ?_,fun f n=> ?_,fun f n=> ?_,fun f n=> ?_,h.cnt,h.msgs,fun f n=> ?_,fun k l v w B m C=>(h.tx k l v w B m C).more fun i t=>u k i v t,fun k l v w B=>(h.Er k l v w B).more fun i t=>u l i w t,fun f n g q j r=> ?_,fun f n g q j r y D N=>h.Et f n g q j r y D (Int.lt_of_le_of_lt (u f j n r) N)⟩,M⟩
 ·unfold sk l5;by_cases j:f=a
  ·subst j;simp only[bF];exact L
  simp only[b6 _ _ j];exact h.copy f n
 ·unfold sk l5;by_cases j:f=a
  ·subst j;simp only[bF];have z:=IY (has:=d.has f) s c (apX _);show hasAll (d.has f) (nd c d f e) f=_;unfold nd;rw[z];have X:=MD h.made (h.copy f n) s n;have Y:=h.own f n;omega
  simp only[b6 _ _ j];exact h.own f n
 ·unfold sk l5;by_cases j:f=a
  ·subst j;simp only[bF];exact Mb _ _ (h.jB f n) M
  simp only[b6 _ _ j];exact h.jB f n
 ·unfold sk l5;by_cases j:f=a
  ·subst j;simp only[bF];obtain⟨P,Q⟩:=h.vW f n;refine⟨aro P (ME _ _).1,fun g q R=>YI _ _ (Q g q R) fun y D=> ?_⟩;obtain⟨p,S,rfl⟩:=Ml D;obtain⟨j,r,C⟩:=(s p S).1;exact q j r _ C
  simp only[b6 _ _ j];exact h.vW f n
 ·unfold sk l5;by_cases j:f=a
  ·subst j;simp only[bF];exact h.ahead n F
  simp only[b6 _ _ j];exact h.l3 f n
 have U:g∈d.ops f:=by rw[h.l3 f n];exact aq3 _ q
 have fb:=(h.copy f n).copy h.made U;exact aro (h.Es f n g q j r) (u j _ r (by omega))
theorem ev.fin(h:ev c b d)(f:a<c)(j:∀y∈e,nc c b y):((nd c d a e++d.kept a).map fun o=>o.op.id).Nodup/\(d.kept a).length+(nd c d a e).length<=c*60:=by
 obtain⟨k,n⟩:=h.wait f j;have g:=(h.copy a f).heard h.made k (m':=[]) (fun p (l:p∈[])=>absurd l asi) arh;have i:(d.kept a).Sublist (d.ops a):=by rw[h.l3 a f];exact List.sublist_append_right _ _
 refine⟨(((BF (nd c d a e) (d.ops a)).map _).nodup_iff.1 (g.YD h.made)).sublist (((List.Sublist.refl _).append i).map _),?_⟩;have m:=g.len h.made;have q:=i.length_le;rw[Qx]at m;have r:(nd c d a e).length=(iL (n4 d a e) (d.has a) c).length:=rfl;omega
theorem ev.MH(h:ev c b d)(e:a<c):(d.kept a).Sublist (d.ops a):=by rw[h.l3 a e];exact List.sublist_append_right _ _
theorem ev.Q3(e:ev f b d)(p:tw f b (d.has a) a h):ev f b (En d c a h):=by
 refine⟨e.made,e.copy,e.own,e.jB,e.vW,e.cnt,e.msgs,e.l3,e.tx,fun j g k l m=> ?_,e.Es,e.Et⟩;show tw f b (d.has g) g (upd d.ll c (upd (d.ll c) a fun i=>max (d.ll c a i) (h i)) j g);by_cases n:j=c
 ·subst n;by_cases o:g=a
  ·subst o;rw[bF,bF];exact(e.Er j g k l m).max p
  rw[bF,b6 _ _ o];exact e.Er j g k l m
 rw[b6 _ _ n];exact e.Er j g k l m
theorem ev.Ad{t}(h:ev f b d)(o:c<f)(j:a<f)(p:c≠a)(n:tz f d c a t):ev f b t:=by
 have r:=h.msgs c a o j p;have s:=h.tx c a o j p;unfold tz at n;cases e:d.ms c a with
 |nil=>rw[e]at n;rw[n];exact h
 |cons m u=>
  rw[e]at n r s;have q:ev f b (ja d c a u):=h.ms (fun k i=>r k (aqh _ i)) (fun k i=>s k (aqh _ i));cases m with
  |inl l=>
   obtain⟨D,v,E,rfl⟩:=n;have w:ev f b (En (ja d c a u) a c (rowOf l)):=q.Q3 (s _ aqf);refine w.ms (fun k i=> ?_) (fun k i=> ?_)
   ·rcases YO i with i|i
    ·exact q.msgs a c j o (aqa p) k i
    obtain⟨g,x,rfl⟩:=ap5.1 i;intro y z;have B:=aq8 (aqE z);exact(h.copy a j).made ((h.MH j).subset (aqL.1 (v.mem_iff.1 B)).1)
   rcases YO i with i|i
   ·exact q.tx a c j o (aqa p) k i
   obtain⟨g,x,rfl⟩:=ap5.1 i
   trivial
  |inr F=>
   obtain⟨I,C,rfl⟩:=n;exact(q.hear j (r _ aqf) C).1
def e4 (o:nU):bH:=match o.chg with
 |.inl l=>⟨o.id,1,l,(0,0),⟨#[]⟩,(0,0),(0,0),0,(0,0),[]⟩
 |.inr (.inl (x,b))=>⟨o.id,2,false,x,⟨#[]⟩,(0,0),b,0,(0,0),[]⟩
 |.inr (.inr (.inl (a,c,x,e,d)))=>⟨o.id,3,false,a,c,x,(0,0),e.1,e.2,d⟩
 |.inr (.inr (.inr (a,c,x,d)))=>⟨o.id,4,false,a,c,x,(0,0),0,(0,0),d⟩
theorem p3(o:nU):(e4 o).id=o.id:=by
 unfold e4;split <;>rfl
theorem aib(o:nU):zI (e4 o) o.nth=o:=by
 obtain⟨id,f,a⟩:=o;rcases a with l|⟨x,b⟩|⟨c,d,x,g,e⟩|⟨c,d,x,e⟩<;>simp[e4,zI,Ih]
def cq (a:List ar):List bg:=(a.map fun o=>e4 o.op).foldl cc c4
theorem pk.root:pk c4 []:=by
 have b:∀x o,bt c4 x=some o->x=(0,0)/\o.ss=[]:=fun x o h=>by
  have c:=Qf h;unfold bt c4 at h;simp only[arK,List.find?_nil]at h;split at h
  ·cases h;exact⟨c.symm,rfl⟩
  cases h
 refine⟨fun x o h=>.inl (b x o h).1,fun x o h s a=> ?_,fun x o h s a=> ?_⟩
 ·rw[(b x o h).2]at a;cases a
 rw[(b x o h).2]at a;cases a
theorem pk.all:∀(S:List bH) (R:List bg) (I:List PId),pk R I->pk (S.foldl cc R) ((S.map bH.id).reverse++I)
 |[],R,I,h=>h
 |p::S,R,I,h=>by
  have :=pk.all S (cc R p) (p.id::I) (h.mu p);simpa using this
def I1 (c:List ar):lg->Prop
 |.inr (.inr (.inl (_,a,x,b,_)))=>(a≠⟨#[]⟩->x=(0,0))/\(b.2=(0,0)\/∃y∈c,y.op.id=b.2/\∃l,y.op.chg=.inl l)
 |.inr (.inr (.inr (_,a,x,_)))=>a≠⟨#[]⟩->x=(0,0)
 |_=>True
def B8 (N:Nat) (M:Nat->List ar):Prop:=∀c,c<N->∀i (a:i<(M c).length),I1 ((M c).take i) (M c)[i].op.chg
theorem YR{N M gt has n early}(m:iO N M)(L:B8 N M)(h:lK N M gt has n early)(P:qA n):∀(S k:List ar) (I ka:List PId),k++S=n->(∀z∈I,∃y∈k,y.op.id=z)->(0,0)∈ka->(∀y∈k,(∃l,y.op.chg=.inl l)->y.op.id∈ka)->Ei I ka (S.map fun o=>e4 o.op)
 |[],_,_,_,_,_,_,_=>trivial
 |o::S,k,I,ka,r,Q,R,s=>by
  have t:o∈n:=by rw[<-r];simp
  obtain⟨c,p,za⟩:=h.made t;obtain⟨i,U,e,b2,a2,W⟩:=m.at p za;have g:=L c p i U;rw[<-e]at g;have X:=P;rw[<-r]at X;obtain⟨_,iT,aic⟩:=arc.1 X;have nZ:∀y∈k,e2 y.op.id o.op.id=true:=fun y a=>aic y a o aqf
  have aid:∀y∈S,e2 o.op.id y.op.id=true:=(aqU.1 iT).1;have OX:∀y∈(M c).take i,y∈k:=fun y a=>by
   obtain⟨j,au,u⟩:=aqv.1 a;rw[aqg]at au;rw[arR]at u;have Y:j<(M c).length:=by omega
   obtain⟨bx,bU,gX⟩:=m.id c p j Y;rw[u]at bx bU gX;have RK:nc N M y:=⟨c,p,aqE a⟩;have hn:=(h.mem m (h.made t)).1 t;have ql:o.op.id.2.toNat=c:=by omega
   have aie:y.op.id.2.toNat=c:=by omega
   rw[ql]at hn;have YT:y∈n:=(h.mem m RK).2 (by rw[aie];omega);have aE:y.op.id.1<o.op.id.1:=by
    have :=aqT.1 (m.jB c p) j i Y U (by omega);rw[u,<-e]at this;exact this
   have f:e2 y.op.id o.op.id=true:=(qz _ _).2 (.inl aE);rw[<-r]at YT;rcases ap7.1 YT with q|q
   ·exact q
   rcases aqb.1 q with rfl|q
   ·rw[uw]at f;cases f
   have :=BE f (aid y q);rw[uw]at this;cases this
  show Ei I ka (e4 o.op::S.map fun o=>e4 o.op);have aif:=YR m L h P S (k++[o]) ((e4 o.op).id::I) (if(e4 o.op).kind=1 then(e4 o.op).id::ka else ka) (by rw[aqs];exact r) (fun z v=>by
   rcases aqb.1 v with rfl|v
   ·exact⟨o,by simp,(p3 o.op).symm⟩
   ·obtain⟨y,a,e'⟩:=Q z v;exact⟨y,aq3 _ a,e'⟩) (by split <;>simp[R]) (fun y a f=>by
   rcases ap7.1 a with a|a
   ·split
    ·exact aqh _ (s y a f)
    exact s y a f
   obtain rfl:=ap9.1 a;obtain⟨l,f⟩:=f;have d:(e4 y.op).kind=1:=by unfold e4;rw[f]
   rw[if_pos d,p3];exact aqf)
  refine⟨?_,?_,?_,?_,?_,aif⟩
  ·unfold e4;split <;>simp
  ·rw[p3];intro w;rw[w]at W;simp at W
  ·rw[p3];intro jg;obtain⟨y,a,B⟩:=Q _ jg;have :=nZ y a;rw[B,uw]at this;cases this
  ·intro d;unfold e4 at d⊢
   revert g d
   rcases o.op.chg with l|⟨x,b⟩|⟨C,D,x,val,E⟩|⟨C,D,x,E⟩
   ·intro _ d;simp at d
   ·intro _ d;simp at d
   ·intro g _ F;exact g.1 F
   intro g _ F;exact g F
  intro d;unfold e4 at d⊢
  revert g d
  rcases o.op.chg with l|⟨x,b⟩|⟨C,D,x,val,E⟩|⟨C,D,x,E⟩
  ·intro _ d;simp at d
  ·intro _ d;simp at d
  ·intro g _;rcases g.2 with w|⟨y,a,B,f⟩
   ·simp only[w];exact R
   simp only;rw[<-B];exact s y (OX y a) f
  intro _ d;simp at d
theorem YU{gt early}(d:iO a b)(f:B8 a b)(c:lK a b gt h e early)(g:qA e):Ei [] [(0,0)] (e.map fun o=>e4 o.op):=YR d f c g e [] [] [(0,0)] rfl (fun _ i=>by cases i) (by simp) (fun _ j=>by cases j)
theorem aih{D0 D}(f:e1 c4 D0)(g:fH D0)(h:Ei [] [(0,0)] (e.map fun o=>e4 o.op))(j:mT D0 (e.map (·.op)) D):e1 (cq e) D/\fH D/\pk (cq e) ((e.map fun o=>o.op.id).reverse):=by
 have k:(List.range (e.map fun o=>e4 o.op).length).map (fun i=>zI ((e.map fun o=>e4 o.op).getD i ⟨(0,0),0,false,(0,0),⟨#[]⟩,(0,0),(0,0),0,(0,0),[]⟩) ((e.map fun o=>o.op.nth).getD i 0))=e.map (·.op):=by
  apply arF
  ·simp
  intro i n l;have d:i<e.length:=by simpa using l
  simp only[aqH,List.getElem_range];rw[show(e.map fun o=>e4 o.op).getD i ⟨(0,0),0,false,(0,0),⟨#[]⟩,(0,0),(0,0),0,(0,0),[]⟩=e4 e[i].op by simp[List.getD,d],show(e.map fun o=>o.op.nth).getD i 0=e[i].op.nth by simp[List.getD,d]];exact aib _
 obtain⟨a,b⟩:=e1.all (e.map fun o=>e4 o.op) (fun i=>(e.map fun o=>o.op.nth).getD i 0) c4 D0 D [] [(0,0)] f g pk.root (fun x m=>by
  obtain rfl:=ap9.1 m;exact⟨⟨(0,0),false,[]⟩,rfl⟩) h (by rw[k];exact j)
 refine⟨a,b,?_⟩;have :=pk.all (e.map fun o=>e4 o.op) c4 [] pk.root;rw[aqB,aqO]at this;have c:(bH.id∘fun o:ar=>e4 o.op)=fun o=>o.op.id:=by
  funext o;exact p3 o.op
 rw[c]at this;exact this
end
end Go.Proofs.YtnkpogjiiohapaaGreatDoor
