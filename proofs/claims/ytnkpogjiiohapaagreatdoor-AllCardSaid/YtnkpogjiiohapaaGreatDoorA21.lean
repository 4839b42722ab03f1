/- Our own text. -/
import Derived.Test.YtnkpogjiiohapaaGreatDoorA19
import Derived.Test.YtnkpogjiiohapaaGreatDoorA20
set_option linter.unusedSimpArgs false
set_option linter.unusedVariables false
set_option maxRecDepth 1000000
set_option maxHeartbeats 4000000
namespace Go.Proofs.YtnkpogjiiohapaaGreatDoor
section
open Go.RowKit Tryz
variable {a b d j:Nat}{c f l m:Nat->Prop}{h k:World}
structure bx where
 gt:Nat->Int
 ai:Nat->Nat->Int
 ar:Nat->List ay
 dR:Nat->List ay
 kept:Nat->List ay
 bt:Nat->List (PId×ay)
 ic:Nat->Nat->Nat->Int
 ms:Nat->Nat->List iv
 sh:Nat->Nat->Bool
variable {e:bx}
structure da where
 dy:Nat
 fy:Nat
 kY:Nat
 lm:List (PId×Nat)
 eR:Nat->Nat
 jh:Nat->Nat->Prop
 q:Nat->gm
 gl:Nat->Nat->Nat
 gc:Nat->Nat->Nat
 hh:Nat->Nat->List Value
 tF:Nat->Nat->Nat
 vN:Nat->Nat->Nat
variable {i:da}
def Wc (k:Nat):Value:=Z k
theorem tG {α:Type} (f:Nat->α) (c:Nat):upd f c (f c)=f:=by
 funext i;unfold upd
 simp_all
def acD (a:List ay) (D0:k8):Prop:=fO dD D0.1/\ha D0.1/\(∀p∈D0.1.1,p.2.ks=[])/\D0.2=a.map (·.op)
structure eC (w:World) (r:Nat) (F I:Nat->Prop) (N sp:Nat) (s:bx) (x:da):Prop where
 bb:w.heap[r]?=some (.cells #[aa x.dy N x.fy,.map (some x.kY)] 119)
 row:w.ownsRow 0 92 1 (aa x.dy N x.fy) N ((List.range N).flatMap λc=>iM (x.eR c))
 hN:N<=4
 fi:∀c,c<N->dU w (x.eR c) (x.jh c) I N sp c (s.gt c) (s.ai c) (s.kept c) (s.bt c) (x.q c)
 lp:∀c,c<N->acD (s.dR c) (x.q c).D0
 k9:∀c,c<N->s.ar c=s.dR c++s.kept c
 pN:∀c d,c<N->d<N->c≠d->∃g,bV (d:Int) (x.q c).fX=some g/\∀i,i<N->rowOf ((x.q c).dq g) i=s.ic c d i
 BJ:∀c,c<N->(∀d cz g,bV d (x.q c).fX=some g->bV cz (x.q c).fX=some g->d=cz)/\(∀p∈(x.q c).fX,∃d:Nat,d<N/\d≠c/\p.1=(d:Int))/\((x.q c).fX.map (·.1)).Nodup
 HL:∃es aX,isMap dC Wc w x.kY x.lm es aX
 rH:∀c d,c<N->d<N->c≠d->bV ((c:Int),(d:Int)) x.lm=some (x.gl c d)
 Do:∀a b:Int,(¬∃c d:Nat,c<N/\d<N/\c≠d/\a=c/\b=d)->bV (a,b) x.lm=none
 k5:∀c d,c<N->d<N->c≠d->iw w (x.gl c d) (x.gc c d) (x.hh c d) (s.sh c d) (x.tF c d) (x.vN c d)
 vO:∀c d,c<N->d<N->c≠d->eW (tD w I) (s.ms c d) (x.hh c d)
 inj:∀c d cB cz,c<N->d<N->c≠d->cB<N->cz<N->cB≠cz->x.gc c d=x.gc cB cz->c=cB/\d=cz
 sub:∀c,c<N->∀k,x.jh c k->F k
 kD:∀c cB,c<N->cB<N->c≠cB->∀k,x.jh c k->¬x.jh cB k
 qt:∀c,c<N->¬x.jh c r
 BK:∀c,c<N->¬x.jh c x.dy
 rY:∀c,c<N->¬x.jh c x.kY
 nl:∀e,e<N->∀c d,c<N->d<N->c≠d->¬x.jh e (x.gl c d)/\¬x.jh e (x.gc c d)
 cc:F r
 nn:F x.dy
 qv:F x.kY
 dW:∀c d,c<N->d<N->c≠d->F (x.gl c d)/\F (x.gc c d)
 lt:∀k,F k->k<w.heap.size
 e0:∀k,I k->¬F k
 cI:∀k,I k->k<w.heap.size
theorem amz (f:Nat->Nat) (n k:Nat) (a:k<n):((List.range n).flatMap λc=>iM (f c))[k]?=some (Z (f k)):=by
 have :((List.range n).flatMap λc=>iM (f c))=(List.range n).map λc=>Z (f c):=by exact List.map_eq_flatMap.symm
 simp_all
theorem eW.imp {α β:Type} {R d:α->β->Prop} (h:∀a b,R a b->d a b):∀{l:List α} {m:List β},eW R l m->eW d l m
 |[],[],_=>trivial
 |[],_::_,c=>c.elim
 |_::_,[],c=>c.elim
 |_::_,_::_,c=>⟨h _ _ c.1,eW.imp h c.2⟩
theorem iw.jy{l e}{w':World}(c:iw h a b l e d j)(f:w'.heap[a]?=h.heap[a]?)(g:w'.heap[b]?=h.heap[b]?):iw w' a b l e d j:=
 ⟨f.trans c.bb,g.trans c.mT,c.len⟩
theorem eC.hA{w r F I N sp s x}{i:World}(h:eC w r F I N sp s x)(j:w.heap.size<=i.heap.size)(b:∀k,F k->i.heap[k]?=w.heap[k]?)(n:∀k,I k->i.heap[k]?=w.heap[k]?):eC i r F I N sp s x:=by obtain⟨o,p,l⟩:=h.HL;exact⟨by rw[b _ h.cc];exact h.bb,cu h.row (λg q=>by cases q;exact b _ h.nn),h.hN,λc a=>(h.fi c a).hA j (λk hF=>b k (h.sub c a k hF)) n,h.lp,h.k9,h.pN,h.BJ,⟨o,p,l.hU (b _ h.qv)⟩,h.rH,h.Do,λc d a e f=>(h.k5 c d a e f).jy (b _ (h.dW c d a e f).1) (b _ (h.dW c d a e f).2),λc d a e f=>(h.vO c d a e f).imp λm u l=>l.fW n j (λ_ y=>y),h.inj,h.sub,h.kD,h.qt,h.BK,h.rY,h.nl,h.cc,h.nn,h.qv,h.dW,λk hF=>c0 (h.lt k hF) j,h.e0,λk hF=>c0 (h.cI k hF) j⟩
theorem eC.ak{w x}{w':World}(h:eC w a c f b d e x)(g:J w w'):eC w' a c f b d e x:=h.hA g.size (λk i=>g.block k (h.lt k i)) (λk i=>g.block k (h.cI k i))
theorem eC.cell{w x}(h:eC w b f l a d e x){c:Nat}(g:c<a):w.cell? (K x.dy c)=some (Z (x.eR c)):=by rw[Iy h.row c (by omega)];exact amz x.eR a c g
theorem eC.cap{w r s}(h:eC w r f l b d s i):b<=i.fy/\i.fy<=maxLen:=by
 obtain⟨a,c,e,g,j,_⟩:=bz h.row
 simp_all
theorem eC.Db{w r F I N b s x}(h:eC w r F I N b s x){I':Nat->Prop}(e:∀k,I k->I' k)(f:∀k,I' k->k<w.heap.size)(g:∀k,I' k->¬F k):eC w r F I' N b s x:=
 ⟨h.bb,h.row,h.hN,λc a=>(h.fi c a).Db e f λk i hF=>g k i (h.sub c a k hF),h.lp,h.k9,h.pN,h.BJ,h.HL,h.rH,h.Do,h.k5,λc d a j l=>(h.vO c d a j l).imp λm u n=>n.fW (λ_ _=>rfl) (bW _) e,h.inj,h.sub,h.kD,h.qt,h.BK,h.rY,h.nl,h.cc,h.nn,h.qv,h.dW,h.lt,g,f⟩
theorem eC.Wd (n:eC h d f m b j e i) (I:a<b) {E5:Int} {has':Nat->Int} {ops' gone' HM:List ay} {j4:List (PId×ay)} {nw':Nat->Nat->Int} {P:gm} (S:dU k (i.eR a) c l b j a E5 has' HM j4 P) (F:dp (i.jh a) c h k) (U:∀o,m o->l o) (qw:∀o,l o->m o\/h.heap.size<=o) (qb:acD gone' P.D0) (mD:ops'=gone'++HM) (TN:P.fX=(i.q a).fX) (HN:∀t,t<b->a≠t->∀g,bV (t:Int) (i.q a).fX=some g->∀v,v<b->rowOf (P.dq g) v=nw' t v):
  ∃Q,eC k d (λo=>f o\/c o) l b j {e with gt:=upd e.gt a E5,ai:=upd e.ai a has',ar:=upd e.ar a ops',dR:=upd e.dR a gone',kept:=upd e.kept a HM,bt:=upd e.bt a j4,ic:=upd e.ic a nw'} Q/\dp f (λo=>f o\/c o) h k/\Q.eR=i.eR/\Q.gl=i.gl/\Q.gc=i.gc/\Q.hh=i.hh/\Q.q=upd i.q a P:=by
 have N:=F.other;have hi:=λo U=>N o (n.cI o U) λhF=>n.e0 o U (n.sub a I o hF)
 obtain⟨es,aX,hm⟩:=n.HL;have L:∀p,p<b->∀o,(if p=a then c else i.jh p) o->i.jh p o\/h.heap.size<=o:=λp z o hF=>by
  by_cases B:p=a
  .subst B;simp only[hQ]at hF;exact F.sub o hF
  simp only[B,fM]at hF;exact .inl hF
 refine⟨{i with jh:=λp=>if p=a then c else i.jh p,q:=upd i.q a P},⟨?_,cu n.row (λg aq=>by cases aq;exact N i.dy (n.lt _ n.nn) (n.BK a I)),n.hN,?_,?_,?_,?_,?_,⟨es,aX,hm.hU (N _ (n.lt _ n.qv) (n.rY a I))⟩,n.rH,n.Do,λr s C D E=>(n.k5 r s C D E).jy (N _ (n.lt _ (n.dW r s C D E).1) (n.nl a I r s C D E).1) (N _ (n.lt _ (n.dW r s C D E).2) (n.nl a I r s C D E).2),λr s C D E=>(n.vO r s C D E).imp λx u hm=>hm.fW hi F.size U,n.inj,?_,?_,?_,?_,?_,?_,.inl n.cc,.inl n.nn,.inl n.qv,λr s C D E=>⟨.inl (n.dW r s C D E).1,.inl (n.dW r s C D E).2⟩,?_,?_,S.cI⟩,⟨F.os,F.tape,F.output,F.size,λo hl hF=>N o hl λy=>hF (n.sub a I o y),λo M=>M.elim .inl λy=>(F.sub o y).imp (n.sub a I o) id⟩,rfl,rfl,rfl,rfl,rfl⟩
 .rw[N d (n.lt _ n.cc) (n.qt a I)];exact n.bb
 .intro p z;by_cases B:p=a
  .subst B;simp only[bL,hQ];exact S
  simp only[ch _ _ B,B,fM];refine((n.fi p z).hA F.size (λo hF=>N o ((n.fi p z).lt o hF) (n.kD p a z I B o hF)) hi).Db U S.cI λo M hF=> ?_
  rcases qw o M with y|y
  .exact n.e0 o y (n.sub p z o hF)
  have :=(n.fi p z).lt o hF;omega
 .intro p z;by_cases B:p=a
  .subst B;simp only[bL];omega
  simp only[ch _ _ B];exact n.lp p z
 .intro p z;by_cases B:p=a
  .subst B;simp only[bL];omega
  simp only[ch _ _ B];exact n.k9 p z
 .intro p w z aH We;by_cases B:p=a
  .subst B;simp only[bL,TN];obtain⟨g,aq,_⟩:=n.pN p w z aH We;exact⟨g,aq,HN w aH We g aq⟩
  simp only[ch _ _ B];exact n.pN p w z aH We
 .intro p z;by_cases B:p=a
  .subst B;simp only[bL,TN];exact n.BJ p z
  simp only[ch _ _ B];exact n.BJ p z
 .intro p z o hF;rcases L p z o hF with y|y
  .exact .inl (n.sub p z o y)
  by_cases B:p=a
  .subst B;simp only[hQ]at hF;exact .inr hF
  simp only[B,fM]at hF;exact .inl (n.sub p z o hF)
 .intro W R y X bI o xm yI;rcases L W y o xm with ck|ck
  .rcases L R X o yI with Y|Y
   .exact n.kD W R y X bI o ck Y
   have :=(n.fi W y).lt o ck;omega
  rcases L R X o yI with Y|Y
  .have :=(n.fi R X).lt o Y;omega
  by_cases av:W=a
  .have aD:¬R=a:=by omega
   simp only[aD,fM]at yI;have :=(n.fi R X).lt o yI;omega
  simp only[av,fM]at xm;have :=(n.fi W y).lt o xm;omega
 .intro p z hF;rcases L p z d hF with y|y
  .exact n.qt p z y
  have :=n.lt _ n.cc;omega
 .intro p z hF;rcases L p z _ hF with y|y
  .exact n.BK p z y
  have :=n.lt _ n.nn;simp only at y;omega
 .intro p z hF;rcases L p z _ hF with y|y
  .exact n.rY p z y
  have :=n.lt _ n.qv;simp only at y;omega
 .intro p z r s C D E;refine⟨λhF=> ?_,λhF=> ?_⟩
  .rcases L p z _ hF with y|y
   .exact(n.nl p z r s C D E).1 y
   have :=n.lt _ (n.dW r s C D E).1;simp only at y;omega
  rcases L p z _ hF with y|y
  .exact(n.nl p z r s C D E).2 y
  have :=n.lt _ (n.dW r s C D E).2;simp only at y;omega
 .intro o M;rcases M with M|M
  .exact c0 (n.lt o M) F.size
  exact S.lt o M
 intro o BL hF;rcases hF with hF|hF
 .rcases qw o BL with y|y
  .exact n.e0 o y hF
  have :=n.lt o hF;omega
 exact S.e0 o BL hF
theorem eC.Wf (o:eC h j c m b d e i) (t:a<b) {x:Int} {y:Nat->Int} {ops' u:List ay} {z:List (PId×ay)} {v:gm} (D:dU k (i.eR a) f l b d a x y u z v) (E:dp (i.jh a) f h k) (F:∀n,m n->l n) (I:∀n,l n->m n\/h.heap.size<=n) (w:JF (i.q a) v) (L:ops'=e.dR a++u):
  ∃s,eC k j (λn=>c n\/f n) l b d {e with gt:=upd e.gt a x,ai:=upd e.ai a y,ar:=upd e.ar a ops',kept:=upd e.kept a u,bt:=upd e.bt a z} s/\dp c (λn=>c n\/f n) h k/\s.eR=i.eR/\s.gl=i.gl/\s.gc=i.gc/\s.hh=i.hh/\s.q=upd i.q a v:=by
 have B:=o.Wd t D E F I (gone':=e.dR a) (nw':=e.ic a) (by rw[w.1];exact o.lp a t) L w.2.1 (λp M N g P r Q=>by
  obtain⟨R,C,S⟩:=o.pN a p t M N;rw[P]at C;cases C;rw[w.2.2]
  simp_all)
 rw[tG,tG]at B;exact B
theorem eC.HO {r:Nat} {F:Nat->Prop} {N Q:Nat} (n:eC h r F c N Q e i) (C:d<N) (D:j<N) (E:d≠j) {l:List Value} {ms:List iv} {tF vN:Nat} (hl:iw k (i.gl d j) (i.gc d j) l (e.sh d j) tF vN) (x:aR (λo=>o=i.gc d j) h k) (I:eW (tD h c) ms l):
  eC k r F c N Q {e with ms:=upd e.ms d (upd (e.ms d) j ms)} {i with hh:=upd i.hh d (upd (i.hh d) j l),tF:=upd i.tF d (upd (i.tF d) j tF),vN:=upd i.vN d (upd (i.vN d) j vN)}:=by
 have pz:=(n.k5 d j C D E).mT;have w:=λo hF hn=>x.other o (n.lt o hF) hn
 have R:=λo S=>x.other o (n.cI o S) λp=>n.e0 o S (p▸((n.dW d j C D E).2))
 have U:∀(o:Nat) (W:Array Value) (t:TypeId) (f:Nat×Nat),h.heap[o]?=some (.cells W t f)->o≠i.gc d j:=λo W t f w p=>by simp_all
 obtain⟨es,aX,X⟩:=n.HL;have il:i.kY≠i.gc d j:=λp=>by have :=X.bb;simp_all
 have hgC:i.dy≠i.gc d j:=λp=>by
  obtain⟨cur,cH⟩:=b0 n.row (g:=i.dy) rfl
  simp_all
 refine⟨by rw[w _ n.cc (U _ _ _ _ n.bb)];exact n.bb,cu n.row (λg aq=>by cases aq;exact w _ n.nn hgC),n.hN,λp L=>(n.fi p L).hA x.size (λo hF=>w o (n.sub p L o hF) λM=>(n.nl p L d j C D E).2 (M▸hF)) R,n.lp,n.k9,n.pN,n.BJ,⟨es,aX,X.hU (w _ n.qv il)⟩,n.rH,n.Do,?_,?_,n.inj,n.sub,n.kD,n.qt,n.BK,n.rY,n.nl,n.cc,n.nn,n.qv,n.dW,λo hF=>c0 (n.lt o hF) x.size,n.e0,λo hF=>c0 (n.cI o hF) x.size⟩
 .intro a b q s v;by_cases p:a=d/\b=j
  .obtain⟨rfl,rfl⟩:=p;simp only[bL];exact hl
  have Y:=(n.k5 a b q s v).jy (w _ (n.dW a b q s v).1 (U _ _ _ _ (n.k5 a b q s v).bb)) (w _ (n.dW a b q s v).2 (λM=>p (n.inj a b d j q s v C D E M)));by_cases B:a=d
  .subst B;have z:=λz=>p ⟨rfl,z⟩
   simp only[bL,ch _ _ z];exact Y
  simp only[ch _ _ B];exact Y
 intro a b q s v;have P:∀{ms:List iv} {l:List Value},eW (tD h c) ms l->eW (tD k c) ms l:=λaC=>aC.imp λm u I=>I.fW R x.size (λ_ y=>y)
 by_cases B:a=d
 .subst B;by_cases z:b=j
  .subst z;simp only[bL];exact P I
  simp only[bL,ch _ _ z];exact P (n.vO a b q s v)
 simp only[ch _ _ B];exact P (n.vO a b q s v)
end
section
open Go.RowKit Tryz
attribute [local go_sem ↓] Go.wp_at_zero Go.wp_at_succ
variable {a c d h k:Nat}{b n:World}{e j:Nat->Prop}{f:bx}{i:da}{l:Value}{m:List Value}
theorem MQ (h:eC b c e j a d f i) (g:Nat) (l:g<a):
  O 44 #[Z c,A g] b λk m=>k=ad (.tuple #[Z (i.eR g),A 0])/\m=b:=by
 have n:=(bD h.bb).1;have o:=h.cell l;have p:=h.cap;have q:=h.hN;have r:(0:Int)<=(g:Int):=by simp
 have s:(g:Int)<(a:Int):=by omega
 go_enter func44,ntmps44;go_wp2;go_ret2
 simp
theorem eC.find(l:eC b h e j d k f i)(m:a<d)(n:c<d)(o:a≠c)(g:Bool)(W:World)(p:J b W):(Instr.lookup 117 (.map (some i.kY)) (.agg #[A a,A c]) g).run prog W=.ok (if g then .tuple #[Z (i.gl a c),.bool true] else Z (i.gl a c)) W:=by
 obtain⟨r,s,q⟩:=l.HL;have :=Cj Vl (q.ak p) underlying117 (show(zeroValue 110).run prog W=.ok (.pointer none) W by kernel_rfl) ((a:Int),(c:Int)) g;rw[l.rH a c m n o]at this;cases g with
 |true=>exact this
 |false=>exact this
theorem MR (g:eC b h e j d k f i) (m:a<d) (n:c<d) (o:a≠c):
  O 51 #[Z h,A a,A c] b λl p=>l=ad (.tuple #[Z (i.gl a c),A 0])/\p=b:=by
 have q:=(bD g.bb).2;have r:=g.find m n o true b (ca _ _);go_enter func51,ntmps51;go_wp2;go_ret2
 simp
theorem QZ (l:eC b h e j d k f i) (p:a<d) (q:c<d) (r:a≠c):
  O 74 #[Z h,A a,A c] b λg u=>g=ad (if f.ms a c=[] then .tuple #[.pointer none,A 12] else .tuple #[Z (i.gl a c),A 0])/\u=b:=by
 have t:=MR l p q r;have s:=ag (V5 (l.k5 a c p q r));have n:=(l.vO a c p q r).len;by_cases m:f.ms a c=[]
 .rw[bn m];rw[m]at n;rw[<-n]at s;clear n m;go_enter func74,ntmps74;go_wp2_with fail
  refine t.mono ?_;rintro g v ⟨rfl,rfl⟩;go_wp2_with fail
  refine s.o.mono ?_;rintro g w ⟨rfl,rfl⟩;go_wp2;go_ret2
  simp
 rw[a7 m];have x:¬(i.hh a c).length=0:=by rw[<-n];exact λg=>m (D7 g)
 go_enter func74,ntmps74;go_wp2_with fail
 refine t.mono ?_;rintro g v ⟨rfl,rfl⟩;go_wp2_with fail
 refine s.o.mono ?_;rintro g w ⟨rfl,rfl⟩;go_wp2;go_ret2
 simp
theorem amA (h:eC b c e j a d f i) (g:Nat) (l:g<a):
  O 25 #[Z c,A g] b λk m=>∃u,k=ad (.tuple #[u,A 0])/\sL b.heap.size m u (l3 a (f.ai g))/\J b m:=by
 obtain⟨s,t,v,w,eN,x⟩:=(h.fi g l).cells;have n:=ag (VI (h.fi g l).ints (by rw[rW];have :=h.hN;omega));rw[rW]at n;go_enter func25,ntmps25;go_wp2_with fail
 refine(MQ h g l).mono ?_;rintro k y ⟨rfl,rfl⟩;go_wp2_with fail
 refine n.o.mono ?_;rintro k z ⟨u,rfl,q,r⟩;have p:=aN q r;go_wp2;go_ret2
 exact⟨u,rfl,p.1,p.2⟩
theorem Q0 {F:Nat->Prop} {g:World} (c:J b n) (d:aR (λk=>k=a) n g) (h:F a):dp F F b g:=
 ⟨d.os.trans c.os,d.tape.trans c.tape,d.output.trans c.output,cd c.size d.size,λk f hF=>(d.other k (c0 f c.size) λe=>hF (e▸h)).trans (c.block k f),λk f=>.inl f⟩
def Fk (N:Nat) (s:bx) (c d:Nat):bx:=if s.sh c d=true\/(s.ms c d).length=12 then s else{s with ms:=upd s.ms c (upd (s.ms c) d (s.ms c d++[.inl (l3 N (s.ai c))]))}
def Fl (I a:Nat->Prop) (w b:World):Prop:=(∀k,I k->a k/\b.heap[k]?=w.heap[k]?)/\∀k,a k->I k\/w.heap.size<=k
theorem Fl.trans{I d e w c f}(h:Fl I d w c)(k:Fl d e c f)(g:w.heap.size<=c.heap.size):Fl I e w f:=⟨λb a=>⟨(k.1 b (h.1 b a).1).1,(k.1 b (h.1 b a).1).2.trans (h.1 b a).2⟩,λb a=>(k.2 b a).elim (h.2 b) λi=>.inr (cd g i)⟩
def yJ (r N d:Nat) (F I:Nat->Prop) (w a:World) (e:bx):Prop:=∃b c f,eC a r b c N d e f/\dp F b w a/\Fl I c w a
theorem eC.same{w}{w':World}(h:eC w a e j c d f i)(g:J w w'):yJ a c d e j w w' f:=
 ⟨e,j,i,h.ak g,dp.cL g,λk b=>⟨b,g.block k (h.cI k b)⟩,λ_ b=>.inl b⟩
theorem sL.iR{u l}(h:sL a b u l)(f:0<l.length)(j:l.length<=1000):∃g c,u=aa g l.length c/\a<=g/\g<b.heap.size/\q9 b g c l.length (rowOf l):=by obtain⟨g,c,rfl,k,m,n,d,o⟩:=h.qu f j;refine⟨g,c,rfl,n,d,⟨λi e=> ?_,k,m,d⟩⟩;rw[o i e];simp[rowOf,e]
theorem amB (l:eC b h j e d k f i) (s:a<d) (v:c<d) (w:a≠c):
  O 27 #[Z h,A a,A c] b λp w'=>p=ad (A (if f.sh a c=true then 10 else if(f.ms a c).length=12 then 8 else 0))/\yJ h d k j e b w' (Fk d f a c):=by
 have F:=MR l s v w;have x:=ag (V6 (l.k5 a c s v w));have N:=(l.vO a c s v w).len;have j9:=λW (t:J b W)=>al3 ((l.ak t).fi a s)
 have P:=(bD l.bb).1;have Q:=l.cell s;have hcap:=l.cap;have hN:=l.hN;have qa:(0:Int)<=(a:Int):=by simp
 have jT:(a:Int)<(d:Int):=by omega
 unfold Fk;rw[<-N]at x;by_cases B:f.sh a c=true
 .rw[bn B]at x⊢;rw[bn (show f.sh a c=true\/(f.ms a c).length=12 from .inl B)];go_enter func27,ntmps27;go_wp2_with fail
  refine F.mono ?_;rintro p R ⟨rfl,rfl⟩;go_wp2_with fail
  refine x.o.mono ?_;rintro p S ⟨rfl,t⟩;have y:=ag t;go_wp2;go_ret
  exact⟨rfl,l.same y.o⟩
 rw[a7 B]at x⊢;by_cases C:(f.ms a c).length=12
 .rw[bn C]at x⊢;rw[bn (show f.sh a c=true\/(f.ms a c).length=12 from .inr C)];go_enter func27,ntmps27;go_wp2_with fail
  refine F.mono ?_;rintro p R ⟨rfl,rfl⟩;go_wp2_with fail
  refine x.o.mono ?_;rintro p S ⟨rfl,t⟩;have y:=ag t;go_wp2;go_ret
  exact⟨rfl,l.same y.o⟩
 rw[a7 C]at x⊢;rw[a7 (show ¬(f.sh a c=true\/(f.ms a c).length=12) from λl=>l.elim B C)];have U:=aN C N;go_enter func27,ntmps27;go_wp2_with fail
 refine F.mono ?_;rintro p R ⟨rfl,rfl⟩;go_wp2_with fail
 refine x.o.mono ?_;rintro p S ⟨rfl,t⟩;replace P:=ak t P;replace Q:=ak t Q;have y:=ag t;go_wp2_with fail
 refine(j9 _ y.o).mono ?_;rintro p I ⟨u,rfl,hu,L⟩;obtain⟨g,z,X,Y,fw,M⟩:=hu.iR (by rw[rW];omega) (by rw[rW];omega);rw[rW]at X;subst X;have cj:=bp y.o L;have D:=cj.alloc cj.size (.cells #[.iface 115 (aa g d z)] 147);have Wg:=V9 (off:=0) (cap:=1) (n:=1) (g:=I.heap.size) ((l.ak D).k5 a c s v w) (λ_=>.iface 115 (aa g d z)) (by omega) (λq aB=>by simp_all)
 go_wp2_with fail
 refine Wg.mono ?_;rintro p w4 ⟨rfl,tF,xg,hT4⟩;have E:=aN xg hT4;go_wp2;go_ret
 obtain⟨Y,fw,M,L⟩:=aN Y (aN fw (aN M L));have b1:=y.o.size;have vI:=l.ak D;have BL:=vI.Db (I':=λm=>e m\/m=g) (λm r=>.inl r) (λm r=>by
  rcases r with r|rfl
  .exact vI.cI m r
  .simp only[Y8];omega) (λm r hF=>by
  rcases r with r|rfl
  .exact l.e0 m r hF
  have :=l.lt _ hF;omega)
 have hl:=E.1;rw[show tE (f.sh a c) (i.hh a c) ((List.range 1).map λ_=>Value.iface 115 (aa g d z))=i.hh a c++[.iface 115 (aa g d z)] by
  have h1:¬(i.hh a c).length=12:=by rw[<-U.2];exact U.1
  simp[tE,h1,mM,show f.sh a c=false by cases p:f.sh a c with |false=>rfl|true=>exact absurd p B]]at hl
 have oD:tD (I.alloc (.cells #[.iface 115 (aa g d z)] 147)) (λm=>e m\/m=g) (.inl (l3 d (f.ai a))) (.iface 115 (aa g d z)):=by refine⟨g,z,by rw[rW],?_,.inr rfl⟩;exact M.ak (aV I _)
 refine⟨rfl,j,_,_,BL.HO s v w hl E.2 (eW.snoc oD (BL.vO a c s v w)),Q0 D E.2 (l.dW a c s v w).2,λm r=>⟨.inl r,?_⟩,λm r=>r.imp id λp=>(by omega)⟩;exact(E.2.other m (c0 (l.cI m r) D.size) λp=>l.e0 m r (p▸(l.dW a c s v w).2)).trans (D.block m (l.cI m r))
theorem iw.taken{f}(e:iw b h a (l::m) f c d):iw (b.setChan a 12 m.toArray f c (d+1) false) h a m f c (d+1):=
 ⟨(QX b _ _ _ _ _ _ (e.ne (i:=0) (v:=.chan (some a)) (by simp[World.cell?,e.bb]))).trans e.bb,by rw[Go.Conc.heap_setChan _ _ _ _ _ _ _ _ (aU e.mT)],by have :=e.len;simp at this;omega⟩
theorem amC (h:m.length<12):tE false m ((List.range 1).map λ_=>l)=m++[l]:=by
 have a:¬m.length=12:=by omega
 simp[tE,a,mM]
theorem Wh (g:iw b a c m false k h) (q:m.length<12) (f:Value) (r:b.heap[d]?=some (.cells #[f] 147)):
  O 53 #[Z a,aa d 1 1] b λe l=>e=ad (.tuple #[])/\∃o,iw l a c (m++[f]) false o h/\aR (λi=>i=c) b l:=by
 refine(V9 (off:=0) (cap:=1) (n:=1) g (λ_=>f) (by omega) (λj t=>by
  obtain rfl:j=0:=by omega
  exact abn r)).mono ?_
 rintro e l ⟨rfl,o,p,s⟩;rw[amC q]at p;exact⟨rfl,o,p,s⟩
theorem acE {t:TypeId} (f:iw b c a (.iface t l::m) false d h):
  O 80 #[Z c] b λe j=>(∃u,e=ad u)/\∃i v,iw j c a (m++[.iface t l]) false i v/\aR (λk=>k=a) b j:=by
 have n:=ag (QW f);have w:m.length<12:=by have :=f.len;assumption
 have p:=ag (MN b a 12 m.toArray false d (h+1) false);have q:=ag f.taken;obtain⟨g,x⟩:∃g,b.setChan a 12 m.toArray false d (h+1) false=g:=⟨_,rfl⟩;rw[x]at n p q;have r:=aV g (.cells #[.iface t l] 147);have y:=Wh (q.o.ak r) w (.iface t l) (bZ g _);go_enter func80,ntmps80;go_wp2_with fail
 refine n.o.mono ?_;rintro e C ⟨rfl,rfl⟩;go_wp2_with fail
 refine y.mono ?_;rintro e D ⟨rfl,i,z,B⟩;have s:=aN z B;go_wp2;go_end0
 exact⟨⟨_,rfl⟩,i,_,s.1,p.o.trans ((aR.cL r).trans s.2)⟩
theorem amD {t:TypeId} {v:Value} {l:List Value} (f:iw b c a (.iface t v::l) false d h) (hl:l.length<11) (P:∀u∈l,∃t v,u=.iface t v):
  O 79 #[Z c] b λe y=>(∃u,e=ad u)/\∃g q,iw y c a (.iface t v::l++[.iface t v]) false g q/\aR (λk=>k=a) b y:=by
 have z:=ag (QW f);have B:=ag (MN b a 12 l.toArray false d (h+1) false);have C:=ag f.taken;obtain⟨m,Q⟩:∃m,b.setChan a 12 l.toArray false d (h+1) false=m:=⟨_,rfl⟩;rw[Q]at z B C;have D:=aV m (.cells #[.iface t v] 147);have R:=Wh (C.o.ak D) (by omega) (.iface t v) (bZ m _);go_enter func79,ntmps79;go_wp2_with fail
 refine z.o.mono ?_;rintro e w2 ⟨rfl,rfl⟩;go_wp2_with fail
 refine R.mono ?_;rintro e w3 ⟨rfl,g,E,S⟩;have F:=ag (V5 E);rw[dh,wu]at F;have I:=aN E (B.o.trans ((aR.cL D).trans S));go_wp2_with fail
 refine F.o.mono ?_;rintro e w4 ⟨rfl,rfl⟩;go_wp2_with fail
 go_loopw [12] (λi wr=>∃k g q,k<=l.length/\i=A (k:Nat)/\iw wr c a (l.drop k++[.iface t v]++l.take k) false g q/\aR (λk=>k=a) b wr) (λi _=>l.length-(intOf i).toNat)
 case atStart=>exact⟨0,g,_,b6 _,rfl,by simpa using I.1,I.2⟩
 case round=>
  obtain⟨k,s2,U,hk,rfl,n,L⟩:=hrel;by_cases p:k<l.length
  .obtain⟨W,X,M⟩:=P l[k] (dB p);rw[Cb p,M,p5,p5]at n;have r:=ag L;go_wp2_with fail
   refine(acE n).mono ?_;rintro e Y ⟨⟨u,rfl⟩,s,sN,w,x⟩;have j:=ag (aN w x);go_wp2;go_roundw
   case rel=>refine⟨k+1,s,sN,p,by go_num,?_,r.o.trans j.o.2⟩;rw[(ag (show l.take (k+1)=l.take k++[.iface W X] by rw[lx p,M])).o];have :=j.o.1;simpa using this
   case measure=>simp[intOf];omega
  have iC:k=l.length:=by omega
  subst iC;rw[List.drop_length,wv]at n;have N:=aV wr (.cells #[.iface t v] 147);have r:=ag L;go_wp2_with fail
  refine(Wh (n.ak N) (by simp;omega) (.iface t v) (bZ wr _)).mono ?_;rintro e Y ⟨rfl,s,w,x⟩;have j:=ag (aN w x);go_wp2;go_end0
  refine⟨⟨_,rfl⟩,s,U,?_,r.o.trans ((aR.cL N).trans j.o.2)⟩;have :=j.o.1
  assumption
theorem tD.acF:∀{m:iv} {u:Value},tD b e m u->∃t v,u=.iface t v
 |.inl _,_,⟨_,_,h,_⟩=>⟨_,_,h⟩
 |.inr _,_,⟨_,h,_⟩=>⟨_,_,h⟩
theorem eW.acG{w:World}{I:Nat->Prop}:∀{b:List iv} {l:List Value},eW (tD w I) b l->∀u∈l,∃t v,u=.iface t v
 |[],[],_,_,a=>by cases a
 |[],_::_,h,_,_=>h.elim
 |_::_,[],h,_,_=>h.elim
 |_::_,_::_,h,u,a=>by
  rcases ft.1 a with rfl|a
  .exact h.1.acF
  exact eW.acG h.2 u a
def kl (s:bx) (c d:Nat) (l:List iv):bx:={s with ms:=upd s.ms c (upd (s.ms c) d l)}
theorem eC.linked (g:eC b h j e d k f i) (q:a<d) (r:c<d) (s:a≠c) {l:List Value} {u:List iv} {v w:Nat} (x:iw n (i.gl a c) (i.gc a c) l (f.sh a c) v w) (t:aR (λm=>m=i.gc a c) b n) (y:eW (tD b e) u l):yJ h d k j e b n (kl f a c u):=
 ⟨j,e,_,g.HO q r s x t y,Q0 (ca _ _) t (g.dW a c q r s).2,λm p=>⟨p,t.other m (g.cI m p) λo=>g.e0 m p (o▸(g.dW a c q r s).2)⟩,λ_ p=>.inl p⟩
theorem eC.first{w r F sp x}(h:eC w r F e d sp f x){c:Nat}(j:c<d)(k:a<d)(n:c≠a){m:iv}{g:List iv}(o:f.ms c a=m::g):∃t v l,x.hh c a=.iface t v::l/\tD w e m (.iface t v)/\eW (tD w e) g l/\g.length=l.length/\∀u∈l,∃t v,u=.iface t v:=by
 have b:=h.vO c a j k n;rw[o]at b;cases i:x.hh c a with
 |nil=>rw[i]at b;exact b.elim
 |cons u l=>rw[i]at b;obtain⟨t,v,rfl⟩:=b.1.acF;exact⟨t,v,l,rfl,b.1,b.2,b.2.len,b.2.acG⟩
def Dq (s:bx) (c d:Nat):bx:=match s.ms c d with
 |[]=>s
 |_::l=>kl s c d l
def Fm (s:bx) (c d:Nat):bx:=match s.ms c d with
 |[]=>s
 |m::l=>if s.sh c d=true then s else kl s c d (l++[m])
def Fo (s:bx) (c d:Nat):bx:=match s.ms c d with
 |[]=>s
 |m::l=>if s.sh c d=true\/l.length=11 then s else kl s c d (m::l++[m])
theorem amE (g:eC b h e j d k f i) (p:a<d) (q:c<d) (r:a≠c):O 41 #[Z h,A a,A c] b λn x=>n=ad (A (if f.ms a c=[] then 12 else 0))/\yJ h d k e j b x (Dq f a c):=by
 have s:=ag (QZ g p q r);unfold Dq;cases w:f.ms a c with
 |nil=>
  rw[bn w]at s;rw[bn rfl];go_enter func41,ntmps41;go_wp2_with fail
  refine s.o.mono ?_;rintro n y ⟨rfl,rfl⟩;go_wp2;go_ret
  exact⟨rfl,g.same (ca _ _)⟩
 |cons m z=>
  rw[a7 (by simp_all)]at s;obtain⟨t,v,l,B,E,C,_,_⟩:=g.first p q r w
  have u:=g.k5 a c p q r;rw[B]at u;have D:=g.linked p q r u.taken (MN b _ 12 l.toArray (f.sh a c) _ _ false) C;rw[a7 (show ¬m::z=[] by simp)];go_enter func41,ntmps41;go_wp2_with fail
  refine s.o.mono ?_;rintro n y ⟨rfl,rfl⟩;go_wp2_with fail
  refine(QW u).mono ?_;rintro n F ⟨rfl,rfl⟩;go_wp2;go_ret
  exact⟨rfl,D⟩
theorem amF (g:eC b h e j d k f i) (s:a<d) (w:c<d) (x:a≠c):O 43 #[Z h,A a,A c] b λn D=>n=ad (A (if f.ms a c=[] then 12 else if f.sh a c=true then 10 else 0))/\yJ h d k e j b D (Fm f a c):=by
 have q:=ag (QZ g s w x);unfold Fm;cases z:f.ms a c with
 |nil=>
  rw[bn z]at q;rw[bn rfl];have p:=ag g;go_enter func43,ntmps43;go_wp2_with fail
  refine q.o.mono ?_;rintro n B ⟨rfl,rfl⟩;go_wp2;go_ret
  exact⟨rfl,p.o.same (ca _ _)⟩
 |cons m E=>
  rw[a7 (by simp_all)]at q;obtain⟨t,v,l,F,I,L,_,_⟩:=g.first s w x z
  have r:=g.k5 a c s w x;rw[F]at r;rw[a7 (show ¬m::E=[] by simp)];by_cases M:f.sh a c=true
  .have N:b.cell? (K (i.gl a c) 1)=some (.bool true):=by simp[World.cell?,r.bb,M]
   have p:=ag g;go_enter func43,ntmps43;go_wp2_with fail
   refine q.o.mono ?_;rintro n B ⟨rfl,rfl⟩;go_wp2;go_ret
   exact⟨rfl,p.o.same (ca _ _)⟩
  have y:f.sh a c=false:=by simp_all
  have N:b.cell? (K (i.gl a c) 1)=some (.bool false):=by simp[World.cell?,r.bb,y]
  rw[y]at r;have p:=ag (aN g (aN I L));go_enter func43,ntmps43;go_wp2_with fail
  refine q.o.mono ?_;rintro n B ⟨rfl,rfl⟩;go_wp2_with fail
  refine(acE r).mono ?_;rintro n R ⟨⟨u,rfl⟩,S,U,P,Q⟩;have C:=aN P Q;go_wp2;go_ret
  exact⟨rfl,p.o.1.linked s w x (by rw[y];exact C.1) C.2 (eW.snoc p.o.2.1 p.o.2.2)⟩
theorem amG (n:eC b h e j d k f i) (D:a<d) (E:c<d) (F:a≠c):O 42 #[Z h,A a,A c] b λp X=>p=ad (A (if f.ms a c=[] then 12 else if f.sh a c=true then 10 else if(f.ms a c).length=12 then 8 else 0))/\yJ h d k e j b X (Fo f a c):=by
 have z:=ag (QZ n D E F);unfold Fo;cases I:f.ms a c with
 |nil=>
  rw[bn I]at z;rw[bn rfl];have r:=ag n;go_enter func42,ntmps42;go_wp2_with fail
  refine z.o.mono ?_;rintro p L ⟨rfl,rfl⟩;go_wp2;go_ret
  exact⟨rfl,r.o.same (ca _ _)⟩
 |cons m B=>
  rw[a7 (by simp_all)]at z;obtain⟨t,v,l,Y,h1,h2,wX,hfc⟩:=n.first D E F I
  have C:=n.k5 a c D E F;rw[Y]at C;have w:=ag (V6 C);simp only[iq]at w;have hlen:=C.len;simp only[iq]at hlen;rw[a7 (show ¬m::B=[] by simp)];by_cases M:f.sh a c=true
  .rw[bn M]at w;have r:=ag n;go_enter func42,ntmps42;go_wp2_with fail
   refine z.o.mono ?_;rintro p L ⟨rfl,rfl⟩;go_wp2_with fail
   refine w.o.mono ?_;rintro p R ⟨rfl,x⟩;have q:=ag x;go_wp2;go_ret
   exact⟨rfl,r.o.same q.o⟩
  have S:f.sh a c=false:=by simp_all
  rw[a7 M]at w;rw[S]at C;by_cases N:B.length=11
  .have P:l.length+1=12:=by omega
   rw[bn P]at w;rw[bn (show(m::B).length=12 by simp[N])];have r:=ag n;go_enter func42,ntmps42;go_wp2_with fail
   refine z.o.mono ?_;rintro p L ⟨rfl,rfl⟩;go_wp2_with fail
   refine w.o.mono ?_;rintro p R ⟨rfl,x⟩;have q:=ag x;go_wp2;go_ret
   exact⟨rfl,r.o.same q.o⟩
  simp only[a7 (show ¬(f.sh a c=true\/B.length=11) from λn=>n.elim M N)];have P:¬l.length+1=12:=by omega
  rw[a7 P]at w;rw[a7 (show ¬(m::B).length=12 by simp[N])];have amH:l.length<11:=by omega
  have ib:=λW (x:J b W)=>amD (C.ak x) amH hfc
  have r:=ag (aN n (aN h1 h2));go_enter func42,ntmps42;go_wp2_with fail
  refine z.o.mono ?_;rintro p L ⟨rfl,rfl⟩;go_wp2_with fail
  refine w.o.mono ?_;rintro p R ⟨rfl,x⟩;have q:=ag x;go_wp2_with fail
  refine(ib _ q.o).mono ?_;rintro p w3 ⟨⟨u,rfl⟩,s',zQ,k7,jD⟩;have U:=aN k7 jD;go_wp2;go_ret
  obtain⟨aY,I',x',bO,cy,Q⟩:=((r.o.1.ak q.o).linked D E F (by rw[S];exact U.1) U.2 (eW.snoc (l:=_::_) (m:=_::_) (r.o.2.1.fW (λg s=>q.o.block g (r.o.1.cI g s)) q.o.size (λ_ y=>y)) ⟨r.o.2.1.fW (λg s=>q.o.block g (r.o.1.cI g s)) q.o.size (λ_ y=>y),r.o.2.2.imp λm u I=>I.fW (λg s=>q.o.block g (r.o.1.cI g s)) q.o.size (λ_ y=>y)⟩));exact⟨rfl,aY,I',x',bO,cy.before q.o,λg s=>⟨(Q.1 g s).1,(Q.1 g s).2.trans (q.o.block g (r.o.1.cI g s))⟩,λg s=>(Q.2 g s).imp id λn=>cd q.o.size n⟩
end
section
variable {a:Nat->List ay}{b i:Nat}{c h:List (PId×ay)}{d:List ay}{e j:ay}{f:Nat->Int}
structure j5 (N:Nat) (M:Nat->List ay):Prop where
 id:∀c,c<N->∀i (hi:i<(M c).length),(M c)[i].op.id.2=(c:Int)/\(M c)[i].op.cb=(i:Int)+1/\1<=(M c)[i].op.id.1
 len:∀c,c<N->(M c).length<=60
 j1:∀c,c<N->(M c).Pairwise λa b=>a.op.id.1<b.op.id.1
def oE (N:Nat) (M:Nat->List ay) (x:ay):Prop:=∃c,c<N/\x∈M c
def qx (M:Nat->List ay) (ai:Nat->Int) (N:Nat):List ay:=(List.range N).flatMap λ(c:Nat)=>(M c).take (ai c).toNat
structure m9 (N:Nat) (M:Nat->List ay) (gt:Int) (ai:Nat->Int) (ar:List ay) (bt:List (PId×ay)):Prop where
 l3:∀c,c<N->0<=ai c/\ai c<=(M c).length
 perm:ar.Perm (qx M ai N)
 BM:∀o∈ar,o.op.id.1<=gt
 J3:∀p∈bt,oE N M p.2/\p.1=fe p.2
 Wi:(bt.map (·.1)).Nodup
theorem Dr(M:Nat->List ay)(ai:Nat->Int)(n:Nat):qx M ai (n+1)=qx M ai n++(M n).take (ai n).toNat:=by unfold qx;rw[mM,oL];simp
theorem J4{ai:Nat->Int}{n:Nat}:e∈qx a ai n↔∃c,c<n/\e∈(a c).take (ai c).toNat:=by unfold qx;simp
theorem acH{M M':Nat->List ay}{a has':Nat->Int}:∀{n:Nat},(∀c,c<n->(M c).take (a c).toNat=(M' c).take (has' c).toNat)->qx M a n=qx M' has' n
 |0,_=>rfl
 |n+1,h=>by rw[Dr,Dr,acH λc b=>h c (by omega),h n (by omega)]
theorem j5.nodup(g:j5 b a){c:Nat}(i:c<b):(a c).Nodup:=(g.j1 c i).imp λ{d f} h e=>by simp_all
theorem j5.at{N}(d:j5 N a){x:ay}{c:Nat}(e:c<N)(f:x∈a c):∃i,∃b:i<(a c).length,x=(a c)[i]/\x.op.id.2=(c:Int)/\x.op.cb=(i:Int)+1/\1<=x.op.id.1:=by obtain⟨i,b,rfl⟩:=mm.1 f;obtain⟨g,h,j⟩:=d.id c e i b;exact⟨i,b,rfl,g,h,j⟩
theorem j5.acI(l:j5 b a)(g:oE b a e)(k:oE b a j)(h:fe e=fe j):e=j:=by
 obtain⟨c,m,g⟩:=g;obtain⟨d,n,k⟩:=k;obtain⟨i,p,q,r,s,_⟩:=l.at m g;obtain⟨f,t,u,v,w,_⟩:=l.at n k;injection h with x y;have o:c=d:=by omega
 subst o;have z:i=f:=by omega
 simp_all
theorem j5.amI(g:j5 b a)(l:oE b a e)(m:oE b a j)(h:e.op.id=j.op.id):e=j:=by
 obtain⟨c,n,l⟩:=l;obtain⟨d,q,m⟩:=m;obtain⟨i,o,t,r,u,_⟩:=g.at n l;obtain⟨f,p,v,w,x,_⟩:=g.at q m;have s:c=d:=by rw[h]at r;omega
 subst s;rcases Nat.lt_trichotomy i f with k|k|k
 .have :=tT.1 (g.j1 c n) i f o p k
  simp_all
 .simp_all
 have :=tT.1 (g.j1 c n) f i p o k
 simp_all
theorem j5.acJ{N M}(d:j5 N M){ai:Nat->Int}:∀{n:Nat},n<=N->(qx M ai n).Nodup
 |0,_=>by simp[qx]
 |n+1,i=>by rw[Dr];refine nI.2 ⟨j5.acJ d (n:=n) (by omega),(d.nodup (c:=n) (by omega)).sublist (Y7 _ _),λa f b g e=> ?_⟩;subst e;obtain⟨c,j,h⟩:=J4.1 f;obtain⟨_,_,_,k,_⟩:=d.at (c:=c) (by omega) (mo h);obtain⟨_,_,_,l,_⟩:=d.at (c:=n) (by omega) (mo g);omega
theorem j5.acK{N M}(a:j5 N M){ai:Nat->Int}:∀{n:Nat},n<=N->(qx M ai n).length<=n*60
 |0,_=>by simp[qx]
 |n+1,b=>by
  have c:=j5.acK a (ai:=ai) (n:=n) (by omega);have d:=a.len n (by omega);rw[Dr,dh,uW];have :((M n).take (ai n).toNat).length<=(M n).length:=by rw[gU];omega
  omega
theorem m9.bJ{gt ai}(f:m9 b a gt ai d h)(g:e∈d):oE b a e:=by obtain⟨c,i,j⟩:=J4.1 (f.perm.mem_iff.1 g);exact⟨c,i,mo j⟩
theorem m9.kj{gt ai}(e:j5 b a)(h:m9 b a gt ai d c):d.Nodup:=h.perm.nodup_iff.2 (e.acJ (bW _))
theorem m9.amJ{gt}(j:j5 b a)(h:m9 b a gt f d c):(d.map fe).Nodup:=by refine ry.2 (atN (λ{g i} k l m e=>m ?_) (h.kj j));exact j.acI (h.bJ k) (h.bJ l) e
theorem m9.acL {gt:Int} {ai:Nat->Int} (i:j5 b a) (h:m9 b a gt ai d c):(d.map λo=>o.op.id).Nodup:=by refine ry.2 (atN (λ{f g} j k l e=>l ?_) (h.kj i));exact i.amI (h.bJ j) (h.bJ k) e
theorem m9.len{N gt}(b:j5 N a)(h:m9 N a gt f d c):d.length<=N*60:=by rw[h.perm.length_eq];exact b.acK (bW _)
theorem m9.copy{gt ai}(g:j5 b a)(f:m9 b a gt ai d h)(i:e∈d):0<=e.op.id.2/\e.op.id.2<b:=by obtain⟨c,j,k⟩:=f.bJ i;obtain⟨_,_,_,l,_⟩:=g.at j k;omega
theorem m9.mem{gt}(n:j5 b a)(l:m9 b a gt f d h)(r:oE b a e):e∈d↔e.op.cb<=f e.op.id.2.toNat:=by
 rw[l.perm.mem_iff,J4];obtain⟨c,o,s⟩:=r;obtain⟨i,y,m,z,B,_⟩:=n.at o s;have t:e.op.id.2.toNat=c:=by omega
 rw[t];constructor
 .rintro⟨g,p,q⟩;obtain⟨j,C,D,E,F,_⟩:=n.at (c:=g) p (mo q);have u:g=c:=by omega
  subst u;obtain⟨k,v,I⟩:=mm.1 q;rw[gU]at v;have w:k<(a g).length:=by omega
  have :(a g)[k]=e:=by simp_all
  obtain⟨_,x,_⟩:=n.id g p k w;rw[this]at x;omega
 intro L;refine⟨c,o,mm.2 ⟨i,?_,?_⟩⟩
 .rw[gU];omega
 simp_all
theorem acM:∀{l m:List ay},q6 l->q6 m->l.Perm m->l=m
 |[],m,_,_,c=>c.nil_eq
 |a::l,[],_,_,c=>absurd c.length_eq (by simp)
 |a::l,b::m,e,f,c=>by
  obtain⟨g,i⟩:=s9.1 e;obtain⟨j,k⟩:=s9.1 f;have n:a=b:=by
   rcases ft.1 (c.mem_iff.1 (kH (a:=a) (l:=l))) with h|h
   .exact h
   rcases ft.1 (c.mem_iff.2 (kH (a:=b) (l:=m))) with d|d
   .simp_all
   have :=EX (g b d) (j a h);rw[yq]at this;cases this
  subst n;rw[acM i k c.cons_inv]
def uB (N:Nat) (M:Nat->List ay) (m:List (PId×ay)):Prop:=∀p∈m,oE N M p.2/\p.1=fe p.2
theorem uB.all{ai:Nat->Int}{xs:List ay}(h:uB b a c)(f:∀x∈xs,oE b a x):uB b a (jL ai c xs):=λp e=>by
 rcases ab9 e with d|⟨x,d,rfl⟩
 .exact h p d
 simp_all
theorem j5.cb{N M x}(a:j5 N M)(d:oE N M x):1<=x.op.cb/\x.op.cb<=60/\0<=x.op.id.2/\x.op.id.2<N:=by obtain⟨c,b,f⟩:=d;obtain⟨i,g,e,h,j,_⟩:=a.at b f;have :=a.len c b;omega
theorem j5.fN(f:j5 b a)(g:oE b a j){c k:Nat}(h:fe j=((c:Int),(k:Int)+1)):∃p:k<(a c).length,j=(a c)[k]:=by
 obtain⟨d,l,m⟩:=g;obtain⟨i,q,e,r,s,_⟩:=f.at l m;injection h with t u;have n:d=c:=by omega
 subst n;have o:i=k:=by omega
 subst o
 simp_all
theorem acN(l:j5 b a)(m:uB b a h)(c:Nat){n:Int}(r:0<=n)(f:Nat):j3 h (c:Int) n f=((a c).drop n.toNat).take (j3 h (c:Int) n f).length:=by
 have g:=λj o=>by obtain⟨d,i⟩:=m _ (gZ (run_get h c f n j o));exact l.fN d (c:=c) (k:=n.toNat+j) (by rw[<-i];show((c:Int),n+1+(j:Int))=_;congr 1;omega)
 apply Ea
 .rw[gU,ly];rcases S3 (j3 h (c:Int) n f).length with p|p
  .omega
  obtain⟨q,_⟩:=g ((j3 h (c:Int) n f).length-1) (by omega);omega
 intro j d i;obtain⟨q,e⟩:=g j d
 simp_all
theorem amK(c:Nat->Int)(a b:List ay):hasAll c (a++b)=hasAll (hasAll c a) b:=by unfold hasAll;simp
theorem acO {c:Nat}:∀(l:List ay) (h:Nat->Int) (n:Int),h c=n->(∀j (f:j<l.length),l[j].op.id.2=(c:Int)/\l[j].op.cb=n+1+(j:Int))->hasAll h l=λi=>if i=c then n+(l.length:Int) else h i
 |[],h,n,b,_=>by
  funext i;by_cases a:i=c
  .subst a;simp[hasAll,b]
  simp[hasAll,a]
 |x::l,h,n,b,d=>by
  have g:=d 0 (by simp);simp only[YD]at g;have k:x.op.id.2.toNat=c:=by omega
  have e:hasAll h (x::l)=hasAll (upd h c (n+1)) l:=by
   show hasAll (upd h x.op.id.2.toNat x.op.cb) l=_
   simp_all
  rw[e,acO (c:=c) l (upd h c (n+1)) (n+1) (by simp[upd]) λj f=>by have :=d (j+1) (by simp_all);simp only[OD]at this;omega]
  funext i;by_cases a:i=c
  .simp[a];omega
  simp[a,upd]
def uC (m:List (PId×ay)) (a:Nat->Int) (n:Nat) (c:Nat):Int:=if c<n then a c+((j3 m (c:Int) (a c) 61).length:Int) else a c
theorem MT{N M m}{ai:Nat->Int}(a:uB N M m):∀n,n<=N->hasAll ai (kC m ai n)=uC m ai n
 |0,_=>by rfl
 |n+1,g=>by
  rw[QD,amK,MT a n (by omega)];rw[acO (c:=n) (j3 m (n:Int) (ai n) 61) (uC m ai n) (ai n) (by simp[uC]) λj b=>by obtain⟨h,d⟩:=a _ (gZ (run_get m n 61 (ai n) j b));injection d with e f;exact⟨e.symm,f.symm⟩]
  funext i;unfold uC;by_cases k:i=n
  .simp_all
  omega
theorem amL{gt}(k:j5 i a)(g:m9 i a gt f d h)(l:uB i a c)(m:b<i){n:Nat}:(a b).take (uC c f n b).toNat=if b<n then(a b).take (f b).toNat++j3 c (b:Int) (f b) 61 else(a b).take (f b).toNat:=by
 unfold uC;have o:=(g.l3 b m).1;by_cases j:b<n
 .rw[bn j,bn j];have e:(f b+((j3 c (b:Int) (f b) 61).length:Int)).toNat=(f b).toNat+(j3 c (b:Int) (f b) 61).length:=by omega
  rw[e,Y4,<-acN k l b o 61]
 rw[a7 j,a7 j]
theorem Q1{gt ai}(f:j5 i a)(e:m9 i a gt ai d h)(g:uB i a c)(j:b<i):0<=uC c ai i b/\uC c ai i b<=(a b).length/\ai b<=uC c ai i b:=by have k:=e.l3 b j;have l:=kq List.length (acN f g b k.1 61);rw[gU,ly]at l;unfold uC;omega
theorem acP{N M gt a d e m}(b:j5 N M)(h:m9 N M gt a d e)(c:uB N M m):∀n,n<=N->(qx M (uC m a N) n).Perm (kC m a n++qx M a n)
 |0,_=>by rfl
 |n+1,f=>by rw[Dr,Dr,QD,amL b h c (by omega),bn (by omega)];refine((acP b h c n (by omega)).append_right _).trans ?_;simp only[kr];refine YR _ ?_;rw[<-kr];exact YS
theorem Q2:∀(a:List ay) (gt:Int),gt<=o7 gt a/\∀x∈a,x.op.id.1<=o7 gt a
 |[],gt=>⟨D8 _,λx b=>by cases b⟩
 |y::a,gt=>by
  obtain⟨c,d⟩:=Q2 a (max gt y.op.id.1);have e:o7 gt (y::a)=o7 (max gt y.op.id.1) a:=rfl;rw[e];refine⟨by omega,λx b=> ?_⟩;rcases ft.1 b with rfl|b
  .omega
  simp_all
theorem acQ{g:Int}:∀(a:List ay) (gt:Int),gt<=g->(∀x∈a,x.op.id.1<=g)->o7 gt a<=g
 |[],gt,h,_=>h
 |y::a,gt,h,b=>acQ a (max gt y.op.id.1) (by have :=b y kH;omega) λx c=>b x (jk _ c)
theorem m9.cF{gt ai m}(i:j5 b a)(h:m9 b a gt ai d c){m':List (PId×ay)}(f:uB b a m)(k:∀p∈m',p∈m)(l:(m'.map (·.1)).Nodup):
  m9 b a (o7 gt (kC m ai b)) (hasAll ai (kC m ai b)) (kk d (kC m ai b)) m':=by
 rw[MT f b (bW _)];refine⟨λe j=>⟨(Q1 i h f j).1,(Q1 i h f j).2.1⟩,(EY _ _).trans ((YR _ h.perm).trans (acP i h f b (bW _)).symm),λo g=> ?_,λp n=>f p (k p n),l⟩;obtain⟨q,r⟩:=Q2 (kC m ai b) gt;rcases dZ.1 ((EY _ _).mem_iff.1 g) with g|g
 .simp_all
 have :=h.BM o g;omega
end
section
open Go.RowKit Tryz
attribute [local go_sem ↓] Go.wp_at_zero Go.wp_at_succ
variable {a c e f h:Nat}{b:World}{d:Value}
def J5:List iv->List iv->List iv
 |l,[]=>l
 |l,m::a=>J5 (if l.length=12 then l else l++[m]) a
theorem eW.HJ{R:iv->Value->Prop}:∀{f:List iv} {us:List Value} {d:List iv} {c:List Value},eW R d c->eW R f us->eW R (J5 d f) (tE false c us)
 |[],[],_,_,h,_=>h
 |[],_::_,_,_,_,a=>a.elim
 |_::_,[],_,_,_,a=>a.elim
 |b::f,u::us,d,c,h,a=>by
  unfold J5 tE;have i:=h.len;by_cases e:d.length=12
  .have g:c.length=12:=by omega
   simp only[e,g,hQ,or_true];exact eW.HJ h a.2
  have g:¬c.length=12:=by omega
  simp only[e,g,fM,r8,S0];exact eW.HJ (eW.snoc a.1 h) a.2
theorem acR:∀(a l:List Value),tE true l a=l
 |[],_=>rfl
 |u::a,l=>by unfold tE;rw[bn (.inl rfl)];exact acR a l
def yK (a:Bool) (l bs:List iv):List iv:=if a=true then l else J5 l bs
theorem eW.yK{R bs us b c}(a:Bool)(h:eW R b c)(d:eW R bs us):eW R (yK a b bs) (tE a c us):=by
 cases a with
 |true=>rw[acR];exact h
 |false=>exact h.HJ d
theorem eW.maps {α β γ:Type} {R:α->β->Prop} {d:γ->β->Prop} {f:α->γ}:∀{l:List α} {m:List β},(∀a∈l,∀b,R a b->d (f a) b)->eW R l m->eW d (l.map f) m
 |[],[],_,_=>trivial
 |[],_::_,_,c=>c.elim
 |_::_,[],_,c=>c.elim
 |a::l,b::m,h,c=>⟨h a kH b c.1,eW.maps (λa e=>h a (jk _ e)) c.2⟩
def nB (s:bx) (c:Nat) (gt:Int) (ai:Nat->Int) (ar kept:List ay) (bt:List (PId×ay)):bx:={s with gt:=upd s.gt c gt,ai:=upd s.ai c ai,ar:=upd s.ar c ar,kept:=upd s.kept c kept,bt:=upd s.bt c bt}
theorem amM{l:List Int}{b:Nat->Int}(i:l.length=c)(e:a<c):rowOf (pL l b c) a=max (rowOf l a) (b a):=by
 have d:a<l.length:=by omega
 have f:a<(pL l b c).length:=by rw[Dg];exact d
 have g:rowOf (pL l b c) a=(pL l b c)[a]:=by simp[rowOf,f]
 have h:rowOf l a=l[a]:=by simp[rowOf,d]
 rw[g,h,ME _ _ _ _ d,bn e]
def HP (s:bx) (d c:Nat) (a:Nat->Int):bx:={s with ic:=upd s.ic d (upd (s.ic d) c λi=>max (s.ic d c i) (a i))}
theorem amN(s:bx)(d:Nat)(f:Nat->Nat->Int):({s with gt:=upd s.gt d (s.gt d),ai:=upd s.ai d (s.ai d),ar:=upd s.ar d (s.ar d),dR:=upd s.dR d (s.dR d),kept:=upd s.kept d (s.kept d),bt:=upd s.bt d (s.bt d),ic:=upd s.ic d f}:bx)={s with ic:=upd s.ic d f}:=by rw[tG,tG,tG,tG,tG,tG]
theorem acS (a c:Nat):O 53 #[Z a,.slice none 0 c] b λe d=>e=ad (.tuple #[])/\d=b:=by
 go_enter func53,ntmps53;go_wp2;refine KZ 1 ?_;rw[K0];go_wp2;go_end0
 simp
theorem amO {l:List Value} {q:Bool} (m:iw b a c l q e f) {o:List Value} {n:Nat} (r:b.ownsRow h 147 1 d n o) (u:n<=1000):
  O 53 #[Z a,d] b λi p=>i=ad (.tuple #[])/\∃s,iw p a c (tE q l o) q s f/\aR (λk=>k=c) b p:=by
 have v:o.length=n:=by have :=r.1;omega
 rcases r.2 with⟨rfl,y⟩|⟨g,cap,z,rfl,B,C,D,E,F,I⟩
 .have w:o=[]:=by simp_all
  subst w;refine(acS a 0).mono ?_;rintro i p ⟨rfl,rfl⟩;exact⟨rfl,e,m,aR.cL (ca _ _)⟩
 refine(V9 (off:=0) (cap:=cap) (n:=n) (g:=g) m (λj=>o.getD j .nilIface) u (λj L=>by
  have :=Iy r j (by omega)
  simp_all)).mono ?_
 rintro i p ⟨rfl,s,t,x⟩;have i:(List.range n).map (λj=>o.getD j .nilIface)=o:=by
  apply Ea
  .simp[v]
  simp_all
 rw[i]at t;exact⟨rfl,s,t,x⟩
theorem acT{t:TypeId}{f:Nat×Nat}(h:b.heap[a]?=some (.cells #[d] t f)):b.cell? (H a)=some d:=by simp[World.cell?,h]
theorem amP(a:Option Addr)(n c:Nat)(W:World):(nilAhead 501 115 (.slice a n c) "quire/quire.arrive").run prog W=.ok (some false) W:=by kernel_rfl
theorem amQ(a:Option Addr)(n c:Nat)(W:World):(nilAhead 501 382 (.slice a n c) "quire/quire.arrive").run prog W=.ok (some false) W:=by kernel_rfl
def Fp (e:Nat->Nat->Nat) (r N f:Nat) (F I:Nat->Prop) (w a:World) (g:bx):Prop:=∃b c d,eC a r b c N f g d/\(dp F b w a/\Fl I c w a)/\d.gc=e
theorem amR {F I:Nat->Prop} {X:Nat} {s:bx} {x:da} (h:eC b f F I e X s x) (E:c<e) (m:a<e) (L:c≠a) {z:Nat->Int} {gk gJ:Nat} (h9:q9 b gk gJ e z) (BC:I gk) (jE:∀i,i<e->0<=z i/\s.ai a i<=60) (xk:∀i,i<e->z i<=60) (eM:∀x∈s.kept a,0<=x.op.id.2/\x.op.id.2<e) (cS:((s.kept a).map fe).Nodup):
  O 75 #[Z f,.iface 115 (aa gk e gJ),A c,A a] b λd w'=>(∃v,d=ad v)/\∃p,p.Perm ((s.kept a).filter (uz z))/\Bz p/\Fp x.gc f e X F I b w' (kl (HP s a c z) a c (yK (s.sh a c) (s.ms a c) ((JZ p z (s.ai a) e).map (ML p)))):=by
 obtain⟨S,Y,AG⟩:=h.pN a c m E (eE L);have HQA:=ag (λW (ah:J b W)=>ams ((h.ak ah).fi a m) (c:Int) Y (h9.ak ah) BC jE xk eM cS);obtain⟨bw,bq⟩:=bD h.bb;have bm:=h.cell m;have hcap:=h.cap;have hN:=h.hN;unfold maxLen at hcap;have Fh:(0:Int)<=(a:Int):=by simp
 have HI:(a:Int)<(e:Int):=by omega
 have r:=ag h;have Q4:=ag (aN Y (aN AG ((h.fi a m).zK _ (gZ Y)).1.1));clear h h9 jE xk eM cS BC Y AG;go_enter func75,ntmps75;have IP:=amP;have ub:=ag (λx az=>(r.o.fi a m).kB.chg x az);have xT:=ag (λ(B:World) (n2:dU B (x.eR a) (x.jh a) I e X a (s.gt a) (s.ai a) (s.kept a) (s.bt a) {x.q a with dq:=λj=>if j=S then pL ((x.q a).dq S) z e else(x.q a).dq j}) (w:aR (λk=>k=S) b B) (xm:x.jh a S)=>show ∃M,eC B f F I e X (HP s a c z) M/\dp F F b B/\M.gl=x.gl/\M.gc=x.gc/\M.hh=x.hh by
  have cy:dp (x.jh a) (x.jh a) b B:=⟨w.os,w.tape,w.output,w.size,λk l hF=>w.other k l λd=>hF (d▸xm),λk l=>.inl l⟩;obtain⟨M,n,C,_,aD,cY,gu,_⟩:=r.o.Wd m n2 cy (λ_ y=>y) (λ_ y=>.inl y) (gone':=s.dR a) (ops':=s.ar a) (nw':=upd (s.ic a) c λi=>max (s.ic a c i) (z i)) (r.o.lp a m) (r.o.k9 a m) rfl (λd he hde g U i hi=>by
   by_cases D:d=c
   .subst D;rw[Q4.o.1]at U;cases U;simp only[hQ,bL];rw[amM Q4.o.2.2 hi,Q4.o.2.1 i hi]
   have bI:g≠S:=λe'=>D (by rw[e']at U;have :=(r.o.BJ a m).1 _ _ _ U Q4.o.1;omega)
   simp only[a7 bI];rw[ch _ _ D];obtain⟨g',iH,aO⟩:=r.o.pN a d m he hde;rw[U]at iH;cases iH;exact aO i hi)
  have hFF:(λk=>F k\/x.jh a k)=F:=by funext k;exact propext ⟨λl=>l.elim id (r.o.sub a m k),.inl⟩
  rw[amN,hFF]at n;rw[hFF]at C;exact⟨M,n,C,aD,cY,gu⟩)
 go_wp2_with fail
 go_region_with (first |(go_at_call 273;refine(HQA.o _ (gb _)).mono ?_;rintro d B ⟨v,aK,p,dQ,dL,rfl,P,aE,N,n2,w,xm⟩;obtain⟨M,n,C,Jj,D,nW⟩:=xT.o B n2 ⟨w.os,w.tape,w.output,w.size,w.other⟩ xm;have a1:=ag (aN P (aN aE (aN N (aN n (aN C (aN Jj (aN D nW)))))));have mh:=n.find m E (eE L) false B (ca _ _);simp only[r8,fM]at mh;replace bq:=(bD n.bb).2;have Wg:=ag (amO (n.k5 a c m E (eE L)) N.2.1 (cd (Nat.le_of_eq (QQ _ _ _)) (by rw[ww];omega)));clear P aE N n2 w xm n C Jj D nW))
 all_goals clear bw bm
 all_goals go_wp2_with fail
 all_goals refine Wg.o.mono ?_
 all_goals rintro d w2 ⟨rfl,tF,k7,Q⟩
 all_goals(have iA:=ag (aN k7 Q);clear k7 Q)
 all_goals go_wp2
 all_goals go_end0
 all_goals
  obtain⟨P,aE,N,n,C,Jj,D,nW⟩:=a1.o;obtain⟨k7,Q⟩:=iA.o;have hblk:∀k,(Value.slice dQ p.length dL).ownBlock=some k->b.heap.size<=k/\k<B.heap.size:=λk l=>cX N.1 k l
  have BL:=n.Db (I':=λk=>I k\/(Value.slice dQ p.length dL).ownBlock=some k) (λk l=>.inl l) (λk l=>l.elim (n.cI k) λR=>(hblk k R).2) (λk l hF=>l.elim (λh1=>r.o.e0 k h1 hF) λR=>by have :=(hblk k R).1;have :=r.o.lt k hF;omega);have hlen:p.length<=300:=by have h1:=P.length_eq;have R:=r7 (uz z) (s.kept a);have ax:=(r.o.fi a m).kB.len;omega
  have zT:∀y∈p,rQ B (λk=>I k\/(Value.slice dQ p.length dL).ownBlock=some k) (.iface y.t y.v) y.op.chg:=λy aG=>(ub.o y (p4.1 (P.mem_iff.1 aG)).1).fW (λk l=>C.other k (r.o.cI k l) (r.o.e0 k l)) (λk l=>.inl l)
  have fQ:eW (tD B (λk=>I k\/(Value.slice dQ p.length dL).ownBlock=some k)) ((JZ p z (s.ai a) e).map (ML p)) aK:=eW.maps (λj ah u hu=>amq N.1 hlen zT (λk l=>.inr l) (amp ah) hu) N.2.2;have hR2:=BL.HO m E (eE L) k7 Q ((BL.vO a c m E (eE L)).yK _ fQ);refine⟨⟨_,rfl⟩,p,P,aE,F,_,_,hR2,⟨?_,λk l=>⟨.inl l,?_⟩,λk l=>l.imp id λR=>(hblk k R).1⟩,D⟩
  .have dx:=Q0 (F:=F) (ca _ _) Q (n.dW a c m E (eE L)).2;exact C.trans dx
  exact(Q.other k (n.cI k l) λd=>n.e0 k l (d▸(n.dW a c m E (eE L)).2)).trans (C.other k (r.o.cI k l) (r.o.e0 k l))
def pP (s:bx) (d:Nat) (a:List ay):List (PId×ay):=jL (s.ai d) (s.bt d) a
def qy (N:Nat) (s:bx) (d:Nat) (a:List ay):List ay:=kC (pP s d a) (s.ai d) N
def uD (N:Nat) (s:bx) (d:Nat) (a:List ay) (b:List (PId×ay)):bx:=nB s d (o7 (s.gt d) (qy N s d a)) (hasAll (s.ai d) (qy N s d a)) (kk (s.ar d) (qy N s d a)) (kk (s.kept d) (qy N s d a)) b
theorem amS {F I:Nat->Prop} {v:Nat} {s:bx} {x:da} (h:eC b f F I c v s x) (B:e<c) (n:a<c) (C:e≠a) (j:List ay) (w:opsV b I d j) (D:∀y∈j,0<=y.op.id.2/\y.op.id.2<c)
  (E:((pP s a j).map (·.1)).Nodup) (L:∀p∈pP s a j,p.1.2<=60) (M:∀i,i<c->0<=s.ai a i/\s.ai a i<=1000)
  (N:((qy c s a j++s.kept a).map λo=>o.op.id).Nodup) (P:(s.kept a).length+(qy c s a j).length<=300) (Q:kk (s.ar a) (qy c s a j)=s.dR a++kk (s.kept a) (qy c s a j)) (R:∀y∈qy c s a j,0<=y.op.id.2/\y.op.id.2<c):
  O 75 #[Z f,.iface 382 d,A e,A a] b λg S=>(∃d,g=ad d)/\∃q,yv (pP s a j) (uw (pP s a j) (s.ai a) c) q/\Fp x.gc f c v F I b S (uD c s a j q):=by
 have U:=λW (z:J b W)=>amt ((h.ak z).fi a n) j (w.fW (λk l=>z.block k (h.cI k l)) (λ_ y=>y)) D E L M N P R (e:Int)
 obtain⟨dQ,dL,rfl,_⟩:=w;obtain⟨X,Y⟩:=bD h.bb;have bm:=h.cell n;have hcap:=h.cap;have hN:=h.hN;have Fh:(0:Int)<=(a:Int):=by simp
 have HI:(a:Int)<(c:Int):=by omega
 go_enter func75,ntmps75;have IP:=amQ;go_wp2_with fail
 go_region_with (first |(go_at_call 308;refine(U _ (gb _)).mono ?_;rintro g w1 ⟨rfl,aY,fY,q,n2,t,I3,rZ⟩;obtain⟨x1,m,r,_,Jj,u,nW,_⟩:=h.Wf n n2 (rZ.before (gb _)) (λ_ y=>y) (λ_ y=>.inl y) I3 Q;have mh:=m.find n B (eE C) false w1 (ca _ _);replace Y:=(bD m.bb).2))
 all_goals clear X bm
 all_goals go_wp2_with fail
 all_goals refine(acS _ _).mono ?_
 all_goals rintro g w2 ⟨rfl,rfl⟩
 all_goals go_wp2
 all_goals go_end0
 all_goals
  obtain⟨t,m,r,u⟩:=aN t (aN m (aN r u));exact⟨⟨_,rfl⟩,q,t,_,I,x1,m,⟨r,λk l=>⟨l,r.other k (h.cI k l) (h.e0 k l)⟩,λ_ l=>.inl l⟩,u⟩
end
section
variable {a d f:Nat}{b:Nat->List ay}{c:bx}{e:List ay}{h:Nat->Int}{i:List (PId×ay)}
def MU (N:Nat) (M:Nat->List ay):iv->Prop
 |.inl l=>l.length=N/\∀i,i<N->0<=rowOf l i/\rowOf l i<=(M i).length
 |.inr a=>∀y∈a,oE N M y
def yL (M:Nat->List ay):Nat->Nat
 |0=>0
 |n+1=>yL M n+(M n).length
def vP (N:Nat) (M:Nat->List ay) (a:Nat->Int) (d:Nat) (l:Nat->Int):Prop:=(∀i,i<N->0<=l i/\l i<=a i)/\∀y∈M d,l d<y.op.cb->∀e,e<N->∀g∈M e,g.op.cb<=l e->g.op.id.1<y.op.id.1
def HR (N:Nat) (M:Nat->List ay) (a:Nat->Int) (d:Nat):iv->Prop
 |.inl l=>vP N M a d (rowOf l)
 |.inr _=>True
theorem vP.more{N ai l}(c:vP N b ai a l)(e:∀i,i<N->ai i<=h i):vP N b h a l:=⟨λi d=>⟨(c.1 i d).1,Cg (c.1 i d).2 (e i d)⟩,c.2⟩
theorem HR.more{N:Nat}{M:Nat->List ay}{ai a:Nat->Int}{d:Nat}(b:∀i,i<N->ai i<=a i):∀{m:iv},HR N M ai d m->HR N M a d m
 |.inl _,h=>vP.more h b
 |.inr _,_=>trivial
theorem vP.max {N:Nat} {M:Nat->List ay} {a:Nat->Int} {d:Nat} {l m:Nat->Int} (h:vP N M a d l) (k:vP N M a d m):vP N M a d λi=>Max.max (l i) (m i):=by
 refine⟨λi b=> ?_,λy c n e f g j o=> ?_⟩
 .have :=h.1 i b;have :=k.1 i b;simp only;omega
 simp only at n o;by_cases p:g.op.cb<=l e
 .exact h.2 y c (by omega) e f g j p
 exact k.2 y c (by omega) e f g j (by omega)
structure ed (N:Nat) (M:Nat->List ay) (s:bx):Prop where
 bJ:j5 N M
 copy:∀c,c<N->m9 N M (s.gt c) (s.ai c) (s.ar c) (s.bt c)
 own:∀c,c<N->s.ai c c=(M c).length
 j1:∀c,c<N->q6 (s.ar c)
 xu:∀c,c<N->0<=s.gt c/\∀g:Int,(∀e,e<N->∀y∈M e,y.op.id.1<=g)->0<=g->s.gt c<=g
 iY:∀e,e<N->∀y∈M e,y.op.id.1<=(yL M N:Int)
 msgs:∀c d,c<N->d<N->c≠d->∀m∈s.ms c d,MU N M m
 k9:∀c,c<N->s.ar c=s.dR c++s.kept c
 uE:∀c d,c<N->d<N->c≠d->∀m∈s.ms c d,HR N M (s.ai c) c m
 BN:∀c d,c<N->d<N->c≠d->vP N M (s.ai d) d (s.ic c d)
 BO:∀c,c<N->∀g∈s.dR c,∀d,d<N->g.op.cb<=s.ai d g.op.id.2.toNat
 Ds:∀c,c<N->∀g∈s.dR c,∀d,d<N->∀y∈M d,s.ai c d<y.op.cb->g.op.id.1<y.op.id.1
theorem ed.ms{N s}(h:ed N b s){c:Nat}{l:List iv}(p:∀m∈l,MU N b m)(o:∀m∈l,HR N b (s.ai c) c m):ed N b (kl s c a l):=by
 refine⟨h.bJ,h.copy,h.own,h.j1,h.xu,h.iY,λd e g i j m f=> ?_,h.k9,λd e g i j m f=> ?_,h.BN,h.BO,h.Ds⟩
 all_goals(unfold kl at f;simp only at f)
 rotate_left
 .by_cases k:d=c
  .subst k;by_cases n:e=a
   .subst n;rw[bL,bL]at f;exact o m f
   rw[bL,ch _ _ n]at f;exact h.uE d e g i j m f
  rw[ch _ _ k]at f;exact h.uE d e g i j m f
 by_cases k:d=c
 .subst k;by_cases n:e=a
  .subst n;rw[bL,bL]at f
   simp_all
  rw[bL,ch _ _ n]at f;exact h.msgs d e g i j m f
 rw[ch _ _ k]at f;exact h.msgs d e g i j m f
theorem Wj(b:a<d):rowOf (l3 d h) a=h a:=by simp[rowOf,l3,b]
theorem ed.ask(h:ed d b c)(g:a<d)(k:f<d)(l:a≠f):ed d b (Fk d c a f):=by
 unfold Fk;split
 .exact h
 refine h.ms (λm e=> ?_) (λm e=> ?_)
 .rcases dZ.1 e with e|e
  .exact h.msgs a f g k l m e
  obtain rfl:=fR.1 e;refine⟨rW _ _,λi j=> ?_⟩;rw[Wj j];exact(h.copy a g).l3 i j
 rcases dZ.1 e with e|e
 .exact h.uE a f g k l m e
 obtain rfl:=fR.1 e;refine⟨λi j=> ?_,λy n o=> ?_⟩
 .rw[Wj j];exact⟨((h.copy a g).l3 i j).1,D8 _⟩
 exfalso;rw[Wj g,h.own a g]at o;obtain⟨i,j,_,_,p,_⟩:=h.bJ.at g n;omega
theorem ed.Fq(h:ed f b c)(j:a<f)(k:d<f)(n:a≠d):ed f b (Dq c a d):=by
 have o:=h.msgs a d j k n;have p:=h.uE a d j k n;unfold Dq;split
 .exact h
 rename_i m l e
 rw[e]at o p;exact h.ms (λg i=>o g (jk _ i)) (λg i=>p g (jk _ i))
theorem ed.later(h:ed f b c)(j:a<f)(k:d<f)(n:a≠d):ed f b (Fm c a d):=by
 have o:=h.msgs a d j k n;have p:=h.uE a d j k n;unfold Fm;split
 .exact h
 rename_i m l e
 rw[e]at o p;split
 .exact h
 have q:∀g,g∈l++[m]->g∈m::l:=λg i=>by
  rcases dZ.1 i with i|i
  .simp_all
  simp_all
 exact h.ms (λg i=>o g (q g i)) (λg i=>p g (q g i))
theorem ed.again(h:ed f b c)(j:a<f)(k:d<f)(n:a≠d):ed f b (Fo c a d):=by
 have o:=h.msgs a d j k n;have p:=h.uE a d j k n;unfold Fo;split
 .exact h
 rename_i m l e
 rw[e]at o p;split
 .exact h
 have q:∀g,g∈m::l++[m]->g∈m::l:=λg i=>by
  rcases dZ.1 i with i|i
  .exact i
  simp_all
 exact h.ms (λg i=>o g (q g i)) (λg i=>p g (q g i))
theorem acU{m:iv}:∀{a c:List iv},m∈J5 c a->m∈c\/m∈a
 |[],_,h=>.inl h
 |b::a,c,h=>by
  unfold J5 at h;rcases acU h with h|h
  .split at h
   .simp_all
   rcases dZ.1 h with h|h
   .simp_all
   simp_all
  simp_all
theorem acV{m:iv}{c:Bool}{a b:List iv}(h:m∈yK c b a):m∈b\/m∈a:=by
 unfold yK at h;split at h
 .simp_all
 exact acU h
def vQ (N:Nat) (s:bx) (c d:Nat) (e:bx):Prop:=match s.ms c d with
 |[]=>e=s
 |.inl l::a=>∃b,b.Perm ((s.kept d).filter (uz (rowOf l)))/\Bz b/\e=kl (HP (kl s c d a) d c (rowOf l)) d c (yK (s.sh d c) ((kl s c d a).ms d c) ((JZ b (rowOf l) (s.ai d) N).map (ML b)))
 |.inr f::a=>∃g,yv (pP s d f) (uw (pP s d f) (s.ai d) N) g/\e=uD N (kl s c d a) d f g
theorem ed.en{N}(h:ed N b c)(d:a<N)(f:∀y∈e,oE N b y):uB N b (pP c a e)/\((pP c a e).map (·.1)).Nodup:=⟨uB.all (h.copy a d).J3 f,aca (h.copy a d).Wi⟩
theorem acW{x:ay}:∀{g l:List ay},(∀y∈g,gj y.op.id x.op.id=true)->m6 x (g++l)=g++m6 x l
 |[],_,_=>rfl
 |y::g,l,h=>by have e:m6 x (y::(g++l))=y::m6 x (g++l):=bn (h y kH);show m6 x (y::(g++l))=y::(g++m6 x l);rw[e,acW λz a=>h z (jk _ a)]
theorem acX{g:List ay}:∀{a l:List ay},(∀x∈a,∀y∈g,gj y.op.id x.op.id=true)->kk (g++l) a=g++kk l a
 |[],_,_=>rfl
 |x::a,l,h=>by show kk (m6 x (g++l)) a=g++kk (m6 x l) a;rw[acW (h x kH),acX λz b=>h z (jk _ b)]
theorem amU{ai:Nat->Int}{y:ay}(g:uB a b i)(h:y∈kC i ai d):ai y.op.id.2.toNat<y.op.cb:=by obtain⟨c,_,k⟩:=lg.1 h;obtain⟨j,l,e⟩:=mm.1 k;have f:=run_get i (c:Int) 61 (ai c) j l;rw[e]at f;have m:=(g _ (gZ f)).2;injection m with n o;rw[<-n,<-o,xP];omega
theorem ed.ahead(h:ed d b c)(j:a<d)(q:∀y∈e,oE d b y):kk (c.ar a) (qy d c a e)=c.dR a++kk (c.kept a) (qy d c a e):=by
 obtain⟨k,_⟩:=h.en j q;rw[h.k9 a j];refine acX λy l g r=> ?_
 have u:=amU k l;obtain⟨p,s,f⟩:=QK l;have m:=(k p s).1;rw[f]at m;obtain⟨t,n,o⟩:=m;obtain⟨i,v,_,w,x,_⟩:=h.bJ.at n o;have :=h.Ds a j g r t n y o (by simp_all);exact(rU _ _).2 (.inl this)
theorem ed.hear (h:ed d b c) (E:a<d) (F:∀y∈e,oE d b y) (I:yv (pP c a e) (uw (pP c a e) (c.ai a) d) i):ed d b (uD d c a e i)/\((qy d c a e++c.ar a).map λo=>o.op.id).Nodup:=by
 obtain⟨t,W⟩:=h.en E F;have L:=(h.copy a E).cF h.bJ t I.sub I.kj;have M:=((EY (qy d c a e) (c.ar a)).map _).nodup_iff.1 (L.acL h.bJ);have v:∀f k,f<d->k<d->c.ai f k<=(uD d c a e i).ai f k:=λf k q u=>by
  unfold uD nB;by_cases j:f=a
  .subst j;simp only[bL];have z:=MT (ai:=c.ai f) t d (bW _);unfold qy;rw[z];exact(Q1 h.bJ (h.copy f q) t u).2.2
  simp only[ch _ _ j];simp
 refine⟨⟨h.bJ,λf q=> ?_,λf q=> ?_,λf q=> ?_,λf q=> ?_,h.iY,h.msgs,λf q=> ?_,λl n w x B m C=>(h.uE l n w x B m C).more λk u=>v l k w u,λl n w x B=>(h.BN l n w x B).more λk u=>v n k x u,λf q g r j s=> ?_,λf q g r j s y D N=>h.Ds f q g r j s y D (Y9 (v f j q s) N)⟩,M⟩
 .unfold uD nB;by_cases j:f=a
  .subst j;simp only[bL];exact L
  simp only[ch _ _ j];exact h.copy f q
 .unfold uD nB;by_cases j:f=a
  .subst j;simp only[bL];have z:=MT (ai:=c.ai f) t d (bW _);unfold qy;rw[z];have X:=Q1 h.bJ (h.copy f q) t q;have Y:=h.own f q;omega
  simp only[ch _ _ j];exact h.own f q
 .unfold uD nB;by_cases j:f=a
  .subst j;simp only[bL];exact Qw _ _ (h.j1 f q) M
  simp only[ch _ _ j];exact h.j1 f q
 .unfold uD nB;by_cases j:f=a
  .subst j;simp only[bL];obtain⟨P,Q⟩:=h.xu f q;refine⟨Cg P (Q2 _ _).1,λg r R=>acQ _ _ (Q g r R) λy D=> ?_⟩;obtain⟨p,S,rfl⟩:=QK D;obtain⟨j,s,C⟩:=(t p S).1;exact r j s _ C
  simp only[ch _ _ j];exact h.xu f q
 .unfold uD nB;by_cases j:f=a
  .subst j;simp only[bL];exact h.ahead q F
  simp only[ch _ _ j];exact h.k9 f q
 have U:g∈c.ar f:=by rw[h.k9 f q];exact p3 _ r
 have eM:=(h.copy f q).copy h.bJ U;exact Cg (h.BO f q g r j s) (v j _ s (by omega))
theorem ed.fin (h:ed d b c) (f:a<d) (j:∀y∈e,oE d b y):((qy d c a e++c.kept a).map λo=>o.op.id).Nodup/\(c.kept a).length+(qy d c a e).length<=d*60:=by
 obtain⟨k,n⟩:=h.en f j;have g:=(h.copy a f).cF h.bJ k (m':=[]) (λp (l:p∈[])=>absurd l SZ) IB;have i:(c.kept a).Sublist (c.ar a):=by rw[h.k9 a f];simp
 refine⟨(((EY (qy d c a e) (c.ar a)).map _).nodup_iff.1 (g.acL h.bJ)).sublist (((List.Sublist.refl _).append i).map _),?_⟩;have m:=g.len h.bJ;have q:=i.length_le;rw[Vg]at m;have r:(qy d c a e).length=(kC (pP c a e) (c.ai a) d).length:=rfl;omega
theorem ed.Dt(h:ed d b c)(e:a<d):(c.kept a).Sublist (c.ar a):=by rw[h.k9 a e];simp
theorem ed.VJ(e:ed f b c)(p:vP f b (c.ai a) a h):ed f b (HP c d a h):=by
 refine⟨e.bJ,e.copy,e.own,e.j1,e.xu,e.iY,e.msgs,e.k9,e.uE,λj g k l m=> ?_,e.BO,e.Ds⟩;show vP f b (c.ai g) g (upd c.ic d (upd (c.ic d) a λi=>max (c.ic d a i) (h i)) j g);by_cases n:j=d
 .subst n;by_cases o:g=a
  .subst o;rw[bL,bL];exact(e.BN j g k l m).max p
  rw[bL,ch _ _ o];exact e.BN j g k l m
 rw[ch _ _ n];exact e.BN j g k l m
theorem ed.Du{t}(h:ed f b c)(o:d<f)(j:a<f)(p:d≠a)(n:vQ f c d a t):ed f b t:=by
 have r:=h.msgs d a o j p;have s:=h.uE d a o j p;unfold vQ at n;cases e:c.ms d a with
 |nil=>rw[e]at n;rw[n];exact h
 |cons m u=>
  rw[e]at n r s;have q:ed f b (kl c d a u):=h.ms (λk i=>r k (jk _ i)) (λk i=>s k (jk _ i));cases m with
  |inl l=>
   obtain⟨C,v,D,rfl⟩:=n;have w:ed f b (HP (kl c d a u) a d (rowOf l)):=q.VJ (s _ kH);refine w.ms (λk i=> ?_) (λk i=> ?_)
   .rcases acV i with i|i
    .exact q.msgs a d j o (eE p) k i
    obtain⟨g,x,rfl⟩:=dF.1 i;intro y z;exact(h.copy a j).bJ ((h.Dt j).subset (p4.1 (v.mem_iff.1 (tS (mo z)))).1)
   rcases acV i with i|i
   .exact q.uE a d j o (eE p) k i
   obtain⟨g,x,rfl⟩:=dF.1 i
   trivial
  |inr E=>obtain⟨F,B,rfl⟩:=n;exact(q.hear j (r _ kH) B).1
def fZ (o:pC):bT:=match o.chg with
 |.inl l=>⟨o.id,1,l,(0,0),⟨#[]⟩,(0,0),(0,0),0,(0,0),[]⟩
 |.inr (.inl (x,b))=>⟨o.id,2,false,x,⟨#[]⟩,(0,0),b,0,(0,0),[]⟩
 |.inr (.inr (.inl (a,c,x,e,d)))=>⟨o.id,3,false,a,c,x,(0,0),e.1,e.2,d⟩
 |.inr (.inr (.inr (a,c,x,d)))=>⟨o.id,4,false,a,c,x,(0,0),0,(0,0),d⟩
theorem rf(o:pC):(fZ o).id=o.id:=by unfold fZ;split <;>rfl
theorem amV(o:pC):C3 (fZ o) o.cb=o:=by obtain⟨id,f,a⟩:=o;rcases a with l|⟨x,b⟩|⟨c,d,x,g,e⟩|⟨c,d,x,e⟩<;>simp[fZ,C3,Mh]
def c1 (a:List ay):List bA:=(a.map λo=>fZ o.op).foldl cC dD
theorem rX.root:rX dD []:=by
 have b:∀x o,bM dD x=some o->x=(0,0)/\o.ss=[]:=λx o h=>by
  have c:=UY h;unfold bM dD at h;simp only[Ix,Y3]at h;split at h
  .cases h
   simp_all
  cases h
 refine⟨λx o h=>.inl (b x o h).1,λx o h s a=> ?_,λx o h s a=> ?_⟩
 .rw[(b x o h).2]at a;cases a
 rw[(b x o h).2]at a;cases a
theorem rX.all:∀(S:List bT) (R:List bA) (I:List PId),rX R I->rX (S.foldl cC R) ((S.map bT.id).reverse++I)
 |[],R,I,h=>h
 |p::S,R,I,h=>by
  have :=rX.all S (cC R p) (p.id::I) (h.mx p)
  simp_all
def MV (c:List ay):mY->Prop
 |.inr (.inr (.inl (_,a,x,b,_)))=>(a≠⟨#[]⟩->x=(0,0))/\(b.2=(0,0)\/∃y∈c,y.op.id=b.2/\∃l,y.op.chg=.inl l)
 |.inr (.inr (.inr (_,a,x,_)))=>a≠⟨#[]⟩->x=(0,0)
 |_=>True
def Fr (N:Nat) (M:Nat->List ay):Prop:=∀c,c<N->∀i (a:i<(M c).length),MV ((M c).take i) (M c)[i].op.chg
theorem acY {N:Nat} {M:Nat->List ay} {gt:Int} {ai:Nat->Int} {q:List ay} {bt:List (PId×ay)} (k:j5 N M) (L:Fr N M) (h:m9 N M gt ai q bt) (P:q6 q):∀(S m:List ay) (I lq:List PId),m++S=q->(∀z∈I,∃y∈m,y.op.id=z)->(0,0)∈lq->(∀y∈m,(∃l,y.op.chg=.inl l)->y.op.id∈lq)->HK I lq (S.map λo=>fZ o.op)
 |[],_,_,_,_,_,_,_=>trivial
 |o::S,m,I,lq,r,Q,R,s=>by
  have t:o∈q:=by rw[<-r];simp
  obtain⟨c,n,Ck⟩:=h.bJ t;obtain⟨i,U,e,ck,a2,W⟩:=k.at n Ck;have f:=L c n i U;rw[<-e]at f;have X:=P;rw[<-r]at X;obtain⟨_,lS,amW⟩:=xQ.1 X;have pK:=λy a=>amW y a o kH
  have amX:=(s9.1 lS).1;have TS:∀y∈(M c).take i,y∈m:=λy a=>by
   obtain⟨j,aB,u⟩:=mm.1 a;rw[gU]at aB;rw[K1]at u;have Y:j<(M c).length:=by omega
   obtain⟨bK,b8,hT⟩:=k.id c n j Y;rw[u]at bK b8 hT;have Wl:oE N M y:=⟨c,n,mo a⟩;have hn:=(h.mem k (h.bJ t)).1 t;have sx:o.op.id.2.toNat=c:=by omega
   have amY:y.op.id.2.toNat=c:=by omega
   rw[sx]at hn;have hyo:=(h.mem k Wl).2 (by rw[amY];omega);have aL:y.op.id.1<o.op.id.1:=by have :=tT.1 (k.j1 c n) j i Y U (by omega);rw[u,<-e]at this;omega
   have g:=(rU _ _).2 (.inl aL);rw[<-r]at hyo;rcases dZ.1 hyo with p|p
   .exact p
   rcases ft.1 p with rfl|p
   .omega
   have :=EX g (amX y p);rw[yq]at this;cases this
  show HK I lq (fZ o.op::S.map λo=>fZ o.op);have amZ:=acY k L h P S (m++[o]) ((fZ o.op).id::I) (if(fZ o.op).aM=1 then(fZ o.op).id::lq else lq) (by rw[kr];exact r) (λz v=>by
   rcases ft.1 v with rfl|v
   .exact⟨o,by simp,(rf o.op).symm⟩
   .obtain⟨y,a,e'⟩:=Q z v;exact⟨y,p3 _ a,e'⟩) (by split <;>simp[R]) (λy a g=>by
   rcases dZ.1 a with a|a
   .split
    .exact jk _ (s y a g)
    exact s y a g
   obtain rfl:=fR.1 a;obtain⟨l,g⟩:=g;have d:(fZ y.op).aM=1:=by unfold fZ;rw[g]
   rw[bn d,rf];simp)
  refine⟨?_,?_,?_,?_,?_,amZ⟩
  .unfold fZ;split <;>simp
  .rw[rf];intro w;rw[w]at W;simp at W
  .rw[rf];intro h3;obtain⟨y,a,B⟩:=Q _ h3;have :=pK y a;rw[B,yq]at this;cases this
  .intro d;unfold fZ at d⊢
   revert f d
   rcases o.op.chg with l|⟨x,b⟩|⟨C,D,x,val,E⟩|⟨C,D,x,E⟩
   .intro _ d;simp at d
   .intro _ d;simp at d
   .intro f _ F;exact f.1 F
   intro f _ F;exact f F
  intro d;unfold fZ at d⊢
  revert f d
  rcases o.op.chg with l|⟨x,b⟩|⟨C,D,x,val,E⟩|⟨C,D,x,E⟩
  .intro _ d;simp at d
  .intro _ d;simp at d
  .intro f _;rcases f.2 with w|⟨y,a,B,g⟩
   .simp only[w];exact R
   simp only;rw[<-B];exact s y (TS y a) g
  intro _ d;simp at d
theorem ac0 {gt:Int} (d:j5 a b) (f:Fr a b) (c:m9 a b gt h e i) (g:q6 e):HK [] [(0,0)] (e.map λo=>fZ o.op):=acY d f c g e [] [] [(0,0)] rfl (λ_ j=>by cases j) (by simp) (λ_ k=>by cases k)
theorem am0 {D0 D:cZ} (f:fO dD D0) (g:ha D0) (h:HK [] [(0,0)] (e.map λo=>fZ o.op)) (k:l1 D0 (e.map (·.op)) D):fO (c1 e) D/\ha D/\rX (c1 e) ((e.map λo=>o.op.id).reverse):=by
 have l:(List.range (e.map λo=>fZ o.op).length).map (λi=>C3 ((e.map λo=>fZ o.op).getD i ⟨(0,0),0,false,(0,0),⟨#[]⟩,(0,0),(0,0),0,(0,0),[]⟩) ((e.map λo=>o.op.cb).getD i 0))=e.map (·.op):=by
  apply Ea
  .simp
  intro i m n;have d:i<e.length:=by simp_all
  simp only[pn,agb];rw[show(e.map λo=>fZ o.op).getD i ⟨(0,0),0,false,(0,0),⟨#[]⟩,(0,0),(0,0),0,(0,0),[]⟩=fZ e[i].op by simp[List.getD,d],show(e.map λo=>o.op.cb).getD i 0=e[i].op.cb by simp[List.getD,d]];exact amV _
 obtain⟨a,b⟩:=fO.all (e.map λo=>fZ o.op) (λi=>(e.map λo=>o.op.cb).getD i 0) dD D0 D [] [(0,0)] f g rX.root (λx j=>by obtain rfl:=fR.1 j;exact⟨⟨(0,0),false,[]⟩,rfl⟩) h (by simp_all)
 refine⟨a,b,?_⟩;have :=rX.all (e.map λo=>fZ o.op) dD [] rX.root;rw[oM,rz]at this;have c:(bT.id∘λo:ay=>fZ o.op)=λo=>o.op.id:=by funext o;exact rf o.op
 rw[c]at this;exact this
end
section
open Go.RowKit Tryz
attribute [local go_sem ↓] Go.wp_at_zero Go.wp_at_succ
variable {a c k l:Nat}{b:World}{d:List (PId×ay)}{e:List ay}{f:Nat->Int}{h j:Nat->Prop}{i:gm}{m:PId}{n:bA}
theorem Q5{f g h d e x y z:Value}{t j:TypeId}(k:b.heap[a]?=some (.cells #[f,g,h,d,e] t))(i:b.heap[c]?=some (.cells #[x,y,z] j)):
  b.cell? (H a)=some f/\b.cell? (K a 1)=some g/\b.cell? (K a 2)=some h/\b.cell? (K a 3)=some d/\b.cell? (K a 4)=some e/\b.cell? (H c)=some x/\b.cell? (K c 1)=some y/\b.cell? (K c 2)=some z:=by
 obtain⟨l,m,n,o,p⟩:=fh k;exact⟨l,m,n,o,p,by simp[World.cell?,i],by simp[World.cell?,i],by simp[World.cell?,i]⟩
structure J6 (c:Nat) (gt:Int) (ai:Nat->Int) (ar:List ay) (q:gm):Prop where
 g:0<=gt/\gt<=90000
 h:0<=ai c/\ai c<=60
 old:∀o∈ar,o.op.id.1<=gt
 len:ar.length<=290
 hh:∀bg key el,(fN q.D.1 q.D.2 bg key el).aK.length<=10000/\((fN q.D.1 q.D.2 bg key el).aK.map (·.1)).Nodup
def BP (F I:Nat->Prop) (N g c h:Nat) (gt:Int) (a:Nat->Int) (i:List ay) (j:List (PId×ay)) (q:gm) (w d:World) (l:mY):Prop:=∃t v e b f,dU d h e b N g c (gt+1) (upd a c (a c+1)) (i++[lH c gt a l t v]) j f/\JF q f/\dp F e w d/\(∀k,I k->b k)/\∀k,b k->I k\/w.heap.size<=k
theorem ac1 {gt:Int} (m:dU b c j h k l a gt f e d i) (o:J6 a gt f e i) (p:Bool):
  O 73 #[Z c,.bool p] b λn w'=>n=ad (.agg #[A (gt+1),A a])/\BP j h k l a c gt f e d i b w' (.inl p):=by
 have r:=aV b (af 0 0);have s:=m.lt;have B:=m.cI;have C:=Qz (m.ak r) ⟨o.g.1,by have :=o.g.2;omega⟩ ⟨o.h.1,by have :=o.h.2;omega⟩ o.old (by have :=o.len;omega) 197 (.agg #[.bool p]) (.inl p) rfl;have D:=bZ b (af 0 0);go_enter func73,ntmps73;go_wp2_with fail
 refine C.mono ?_;rintro n R ⟨rfl,t,E,F,I,u⟩;have q:=(u.other _ (by simp) (λhF=>by have :=s _ hF;omega)).trans D;obtain⟨L,M⟩:=bD q;have S:=cV q;have U:=aU q;have N:=F;have w:=u;have P:=I;go_wp2;refine ey (v:=.agg #[A (gt+1),A a]) (by simp[results,results73,go_sem,L,M]) rfl ?_;have x:¬t b.heap.size:=λhF=>by
  rcases w.sub _ hF with m|m
  .have :=s _ m;omega
  simp at m;omega
 have z:¬h b.heap.size:=λQ=>by have :=B _ Q;omega
 exact⟨rfl,_,_,t,h,E,(N.set _ x z).set _ x z,P,((w.before r).ym (bW _) _).ym (bW _) _,λ_ y=>y,λ_ y=>.inl y⟩
theorem Q6 {F:Nat->Prop} {gt:Int} (h:dU b a F j k l c gt f e d i) (B:J6 c gt f e i) (q s:PId) (w:ByteArray) (p:eP):
  O 62 #[Z a,.agg #[A q.1,A q.2,.string w,A s.1,A s.2],.agg #[A p.1,A p.2.1,A p.2.2]] b λn w'=>(∃r,n=ad r)/\∃z,z.Perm ((fN i.D.1 i.D.2 q w s).aK.map (·.1))/\oB z/\BP F j k l c a gt f e d i b w' (.inr (.inr (.inl (q,w,s,p,z)))):=by
 have L:=(aV b (.cells #[A q.1,A q.2,.string w,A s.1,A s.2] 97)).alloc (by simp) (.cells #[A p.1,A p.2.1,A p.2.2] 57);go_enter func62,ntmps62;go_wp2_with fail
 have xW:=(is (b.alloc (.cells #[A q.1,A q.2,.string w,A s.1,A s.2] 97)) (.cells #[A p.1,A p.2.1,A p.2.2] 57) (r:=b.heap.size) (by simp)).trans (bZ b _);have Q7:=show((b.alloc (.cells #[A q.1,A q.2,.string w,A s.1,A s.2] 97)).alloc (.cells #[A p.1,A p.2.1,A p.2.2] 57)).heap[b.heap.size+1]?=some (.cells #[A p.1,A p.2.1,A p.2.2] 57) by have :=bZ (b.alloc (.cells #[A q.1,A q.2,.string w,A s.1,A s.2] 97)) (.cells #[A p.1,A p.2.1,A p.2.2] 57);rw[show(b.alloc (.cells #[A q.1,A q.2,.string w,A s.1,A s.2] 97)).heap.size=b.heap.size+1 by simp]at this;exact this
 go_region_held3 (λW=>W.cell? (V b 0)=some (A q.1)/\W.cell? (V b 1)=some (A q.2)/\W.cell? (V b 2)=some (.string w)/\W.cell? (V b 3)=some (A s.1)/\W.cell? (V b 4)=some (A s.2)/\
   W.cell? (H (b.heap.size+1))=some (A p.1)/\W.cell? (K (b.heap.size+1) 1)=some (A p.2.1)/\W.cell? (K (b.heap.size+1) 2)=some (A p.2.2)) (first |exact Q5 xW Q7|exact Q5 jW.o UA.o|exact Q5 M.o N.o|exact Q5 l8.o sO.o)
  (first
   |(go_at_call 48;refine((λW (C:J b W)=>Bx (h.ak C)) _ L.drew).mono ?_;rintro n w1 ⟨rfl,P⟩;have l8:=ag (bB xW (Hq.o (nv P)));have sO:=ag (bB Q7 (Hq.o (nv P)));have E:=L.drew.trans (P.mono L.size))
   |(go_at_call 92;refine((λW (C:J b W)=>ab1 (h.ak C).kB.q q.1 q.2 s.1 s.2 w (B.hh q w s).1 (B.hh q w s).2) w1 E).mono ?_;rintro n w2 ⟨u,z,rfl,au,aE,Q,R⟩;have M:=ag (bB l8.o R);have N:=ag (bB sO.o R);obtain⟨S,U,rfl,_,_,_⟩:=bz Q;have X:=λm (x:(Value.slice S z.length U).ownBlock=some m)=>cX Q m x;have Y:=bp E R;have Dl:=aN au aE)
   |(go_at_call 91;refine((λ(W:World) (C:J b W) (I:Nat->Prop) (y:∀m,j m->I m) (h2:∀m,I m->m<W.heap.size) (ax:∀m,I m->¬F m) (t:TypeId) (v:Value) (chg:mY) (az:rQ W I (.iface t v) chg)=>Qz ((h.ak C).Db y h2 ax) ⟨B.g.1,by have :=B.g.2;omega⟩ ⟨B.h.1,by have :=B.h.2;omega⟩ B.old (by have :=B.len;omega) t v chg az) w2 Y (λm=>j m\/(Value.slice S z.length U).ownBlock=some m) (λm x=>.inl x) (λm x=>x.elim (λy=>c0 (h.cI m y) Y.size) λy=>(X m y).2) (λm x hF=>x.elim (λy=>h.e0 m y hF) λy=>by have :=(X m y).1;have :=h.lt m hF;have :=E.size;omega) 182 _ (.inr (.inr (.inl (q,w,s,p,z)))) (by exact⟨_,rfl,(show fu w2 (.slice S z.length U) z from Q.ids),λm x=>.inr x⟩)).mono ?_;rintro n w3 ⟨rfl,aY,fY,h6,pA,jp⟩;have jW:=ag ((jp.other _ (aU M.o) (λhF=>by have :=h.lt _ hF;omega)).trans M.o);have UA:=ag ((jp.other _ (aU N.o) (λhF=>by have :=h.lt _ hF;omega)).trans N.o)))
 all_goals go_wp2
 all_goals go_end0
 all_goals exact⟨⟨_,rfl⟩,z,Dl.1,Dl.2,_,_,aY,_,fY,h6,pA,jp.before Y,λm x=>.inl x,λm x=>x.imp id λy=>cd E.size (X m y).1⟩
theorem BP.before{F I N a c b gt d e f q g i}{w W:World}(j:J w W)(h:BP F I N a c b gt d e f q W g i):BP F I N a c b gt d e f q w g i:=by obtain⟨t,v,l,m,n,o,p,r,s,u⟩:=h;exact⟨t,v,l,m,n,o,p,r.before j,s,λk x=>(u k x).imp id λy=>cd j.size y⟩
theorem ac2{a b}(h:Bm a m n b)(c:n.aS=true):(n.ss.map cK.id).filter (sB a)=eJ n:=by rw[afW];congr 1;apply List.filter_congr;intro s d;obtain⟨_,_,e,f,_,g⟩:=h.sG c s d;simp only[Function.comp,sB,f];rw[g.length_eq,c2]
theorem ac3{c d u v:Value}{t:TypeId}(h:b.heap[a]?=some (.cells #[c,d] t)):((b.setCell (H a) u).setCell (K a 1) v).heap[a]?=some (.cells #[u,v] t):=by simpa using setRow (i:=1) (u:=v) (setRow (i:=0) (u:=u) h)
theorem dU.elements {gt:Int} {s:List (PId×ay)} (g:dU b a h j c k l gt f e s i) {R:List bA} (p:fO R i.D) (t:bM R m=some n) (q:n.aS=true) (x:n.ss.length<=10000) (W:World) (v:J b W):
  O 57 #[Z i.d,.agg #[A m.1,A m.2]] W λo r=>∃u,o=ad u/\hR W.heap.size r u (eJ n)/\J W r:=by
 obtain⟨y,w,p⟩:=p.br m n t;have :=aaU (g.kB.q.ak v) m.1 m.2 w (p.aS.trans q) (p.ER q) (by simp_all);rw[ac2 p q]at this;omega
theorem ac4 {gt:Int} (m:dU b c h j k l a gt f e d i) (E:J6 a gt f e i) (p q:PId) (s:ByteArray) (n:Int):
  O 47 #[Z c,.agg #[A p.1,A p.2,.string s,A q.1,A q.2],A n] b λg z=>(f a<60/\g=ad (A 0)/\∃t,t.Perm ((fN i.D.1 i.D.2 p s q).aK.map (·.1))/\oB t/\BP h j k l a c gt f e d i b z (.inr (.inr (.inl (p,s,q,(n,(0,0)),t)))))\/(¬f a<60/\g=ad (A 8)/\J b z):=by
 have B:=ag (aV b (.cells #[A p.1,A p.2,.string s,A q.1,A q.2] 97));have F:=ag (Mu (m.ak B.o) 1 (by omega));have I:=ag (λW (L:J b W)=>Q6 (m.ak L) E p q s (n,(0,0)));have M:=ag (bZ b (.cells #[A p.1,A p.2,.string s,A q.1,A q.2] 97));go_enter func47,ntmps47;go_wp2_with fail
 refine F.o.mono ?_;rintro g N ⟨rfl,C⟩;obtain⟨S,U,X,Y,MW⟩:=fh (bB M.o C);have w:=ag (bp B.o C);by_cases v:f a<60
 .have u:decide (f a+((1:Nat):Int)<=60)=true:=nJ (by omega);rw[u];have x:=ag v;clear v u;go_wp2_with fail
  refine(I.o N w.o).mono ?_;rintro g w2 ⟨⟨r,rfl⟩,t,P,Q,R⟩;have y:=ag (aN P (aN Q R));go_wp2;go_ret
  exact .inl ⟨x.o,rfl,t,y.o.1,y.o.2.1,y.o.2.2.before w.o⟩
 have u:decide (f a+((1:Nat):Int)<=60)=false:=p2 (by omega);rw[u];have x:=ag v;clear v u;go_wp2;go_ret
 exact .inr ⟨x.o,rfl,w.o⟩
theorem ac5 {F:Nat->Prop} {gt:Int} (h:dU b c F j k l a gt f e d i) (y:J6 a gt f e i) (p q:PId) (w:ByteArray):
  O 65 #[Z c,.agg #[A p.1,A p.2,.string w,A q.1,A q.2]] b λn X=>(f a<60/\n=ad (A 0)/\∃x,x.Perm ((fN i.D.1 i.D.2 p w q).aK.map (·.1))/\oB x/\BP F j k l a c gt f e d i b X (.inr (.inr (.inr (p,w,q,x)))))\/(¬f a<60/\n=ad (A 8)/\J b X):=by
 have Y:=h.lt;have du:=h;have bf:=aV b (.cells #[A p.1,A p.2,.string w,A q.1,A q.2] 97);have bR:=Mu (h.ak bf) 1 (by omega);have jw:=λW (z:J b W)=>Bx (h.ak z)
 have jP:=λW (z:J b W)=>ab1 (h.ak z).kB.q p.1 p.2 q.1 q.2 w (y.hh p w q).1 (y.hh p w q).2
 have A0:=λ(W:World) (z:J b W) (C:Nat->Prop) (s:∀m,j m->C m) (h2:∀m,C m->m<W.heap.size) (ax:∀m,C m->¬F m) (t:TypeId) (v:Value) (chg:mY) (az:rQ W C (.iface t v) chg)=>Qz ((h.ak z).Db s h2 ax) ⟨y.g.1,by have :=y.g.2;omega⟩ ⟨y.h.1,by have :=y.h.2;omega⟩ y.old (by have :=y.len;omega) t v chg az
 have xW:=bZ b (.cells #[A p.1,A p.2,.string w,A q.1,A q.2] 97);go_enter func65,ntmps65;go_wp2_with fail
 refine bR.mono ?_;rintro n w1 ⟨rfl,aA⟩;have l8:=bB xW aA;have E:=bp bf aA;by_cases I:f a<60
 .have B:decide (f a+((1:Nat):Int)<=60)=true:=nJ (by omega);rw[B];have M:=ag I;clear I B;go_wp2_with fail
  go_region_held3 (λW=>W.cell? (V b 0)=some (A p.1)/\W.cell? (V b 1)=some (A p.2)/\W.cell? (V b 2)=some (.string w)/\W.cell? (V b 3)=some (A q.1)/\W.cell? (V b 4)=some (A q.2)) (first |exact fh l8|exact fh Uz.o|exact fh N.o|exact fh vx.o)
   (first
    |(go_at_call 48;refine(jw _ E.drew).mono ?_;rintro n w2 ⟨rfl,bo⟩;have vx:=ag (bB l8 (Hq.o (nv bo)));have L:=E.drew.trans (bo.mono E.size))
    |(go_at_call 92;refine(jP w2 L).mono ?_;rintro n w3 ⟨u,x,rfl,au,aE,P,bu⟩;have N:=ag (bB vx.o bu);obtain⟨Q,R,rfl,_,_,_⟩:=bz P;have kw:=show fu w3 (.slice Q x.length R) x from P.ids;have S:=λm (r:(Value.slice Q x.length R).ownBlock=some m)=>cX P m r;have U:=bp L bu;have Dl:=aN au aE)
    |(go_at_call 91;refine(A0 w3 U (λm=>j m\/(Value.slice Q x.length R).ownBlock=some m) (λm r=>.inl r) (λm r=>r.elim (λs=>c0 (du.cI m s) U.size) λs=>(S m s).2) (λm r hF=>r.elim (λs=>du.e0 m s hF) λs=>by have :=(S m s).1;have :=Y m hF;have :=L.size;omega) 184 _ (.inr (.inr (.inr (p,w,q,x)))) ?pz).mono ?_;(case pz=>exact⟨_,rfl,kw,λm r=>.inr r⟩);rintro n w4 ⟨rfl,aY,fY,QC,Q8,tA⟩;have Uz:=ag ((tA.other _ (aU N.o) (λhF=>by have :=Y _ hF;omega)).trans N.o);have mV:=QC;have JH:=tA;have tH:=Q8))
  all_goals go_wp2
  all_goals go_ret
  all_goals exact .inl ⟨M.o,rfl,x,Dl.1,Dl.2,_,_,aY,_,fY,mV,tH,JH.before U,λm r=>.inl r,λm r=>r.imp id λs=>cd L.size (S m s).1⟩
 have B:decide (f a+((1:Nat):Int)<=60)=false:=p2 (by omega);rw[B];have M:=ag I;clear I B;go_wp2;go_ret
 exact .inr ⟨M.o,rfl,E⟩
theorem ac6 {F:Nat->Prop} {gt:Int} (h:dU b c F j k l a gt f e d i) (x:J6 a gt f e i) {R:List bA} (dz:fO R i.D) (al:bM R m=some n) (b3:n.aS=true) (Jg:n.ss.length<=300) (r:Int) {p:PId} (w:lC (eJ n) r=some p):
  O 61 #[Z c,.agg #[A m.1,A m.2],A r] b λs w'=>s=ad (.agg #[A (gt+1),A a])/\BP F j k l a c gt f e d i b w' (.inr (.inl (m,p))):=by
 have dX:=h.lt;have Wn:=h.cI;have z:=(((aV b (af (m.1) (m.2))).alloc (by simp) (af 0 0)).alloc (by simp <;>omega) (af 0 0));have jw:=λW (U:J b W)=>Bx (h.ak U)
 have dv:=h.elements dz al b3 (by omega);have A0:=λ(W:World) (U:J b W)=>Qz (h.ak U) ⟨x.g.1,by have :=x.g.2;omega⟩ ⟨x.h.1,by have :=x.h.2;omega⟩ x.old (by have :=x.len;omega) 179 (.agg #[A m.1,A m.2,A p.1,A p.2]) (.inr (.inl (m,p))) rfl
 have hz:(eJ n).length<=300:=by
  have ax:(eJ n).length<=n.ss.length:=by unfold eJ;rw[c2];exact r7 _ _
  omega
 unfold lC at w;have om:¬(r<0\/r>(eJ n).length):=by simp_all
 rw[a7 om]at w;have dg:=show(((b.alloc (af (m.1) (m.2))).alloc (af 0 0)).alloc (af 0 0)).heap[b.heap.size]?=some (af (m.1) (m.2)) from(is _ _ (by simp;omega)).trans ((is _ _ (by simp)).trans (bZ b _))
 have X:=show(((b.alloc (af (m.1) (m.2))).alloc (af 0 0)).alloc (af 0 0)).heap[b.heap.size+1]?=some (af 0 0) from(is _ _ (by simp)).trans (by
  have :=bZ (b.alloc (af (m.1) (m.2))) (af 0 0)
  simp_all)
 have c7:=show(((b.alloc (af (m.1) (m.2))).alloc (af 0 0)).alloc (af 0 0)).heap[b.heap.size+1+1]?=some (af 0 0) from(by
  have :=bZ ((b.alloc (af (m.1) (m.2))).alloc (af 0 0)) (af 0 0)
  simp_all)
 have N:=show ∀q,b.heap.size<=q->¬F q from λq hk hF=>by have :=dX q hF;omega
 have HNI:=show ∀q,b.heap.size<=q->¬j q from λq hk hF=>by have :=Wn q hF;omega
 by_cases b1:r=0
 .subst b1;rw[bn rfl]at w;cases w;go_enter func61,ntmps61;go_wp2_with fail
  refine(A0 _ z).mono ?_;rintro s B ⟨rfl,C,Y,h6,pA,E⟩;have t:=(E.other _ (aU X) (N _ (by omega))).trans X;obtain⟨fT,fm⟩:=bD t;have mf:=cV t;have JJ:=aU t;have iZ:=ag h6;have I:=ag E;have gE:=ag pA;go_wp2;refine ey (v:=.agg #[A (gt+1),A a]) (by simp[results,results61,go_sem,fT,fm]) rfl ?_;have L:¬C (b.heap.size+1):=λhF=>by
   rcases I.o.sub _ hF with h|h
   .exact N _ (by omega) h
   simp at h;omega
  have M:=HNI (b.heap.size+1) (by omega);exact⟨rfl,_,_,C,j,Y,(iZ.o.set _ L M).set _ L M,gE.o,((I.o.before z).ym (by omega) _).ym (by omega) _,λ_ y=>y,λ_ y=>.inl y⟩
 rw[a7 b1]at w;obtain⟨o,rfl⟩:∃o:Nat,r=(o:Int)+1:=⟨(r-1).toNat,by omega⟩;rw[show((o:Int)+1-1).toNat=o by omega]at w;obtain⟨aB,zU⟩:=Au.1 w;have Ej:(0:Int)<=(o:Int):=by simp
 have uG:(o:Int)<((eJ n).length:Int):=by omega
 have Dv:=zU;have hjs:(o:Int)+1-1=(o:Int):=by omega
 have hjw:IntKind.i64.wrap (o:Int)=(o:Int):=mN _ (by omega);have iV:=aB;obtain⟨x0,x1⟩:=bD dg;go_enter func61,ntmps61;go_wp2_with fail
 go_region_with (first
  |(go_at_call 48;refine(jw _ z.drew).mono ?_;rintro s w1 ⟨rfl,t⟩;have fb:=Hq.o (nv t);have uH:=bB dg fb;have eD:=bB X fb;have kR:=bB c7 fb;replace x0:=(bD uH).1;replace x1:=(bD uH).2;have aJ:=z.drew.trans (t.mono z.size))
  |(go_at_call 57;refine(dv w1 aJ).mono ?_;rintro s w2 ⟨u,rfl,hu,P⟩;obtain⟨lW,lX,rfl,xV,ya,kf⟩:=bz hu;obtain⟨wV,rfl⟩:=kf o aB;unfold maxLen at ya;obtain⟨u0,u1⟩:=fu.cells hu.ids rfl o aB;rw[Dv]at u0 u1;have pQ:=bB uH P;have rh:=bB eD P;have Q:=bB kR P;have z0:=(bD Q).1;have z1:=(bD Q).2;have HU:=cV Q;replace x0:=(bD pQ).1;replace x1:=(bD pQ).2;have bF:=bp aJ P;have HGU:=ag (cX hu wV rfl).1))
 all_goals(
  generalize S:(w2.setCell (H (b.heap.size+1+1)) (A p.1)).setCell (K (b.heap.size+1+1) 1) (A p.2)=B;have mA:=show B.heap[b.heap.size+1+1]?=some (af (p.1) (p.2)) by rw[<-S];exact ac3 Q
  have tn:=show B.heap[b.heap.size+1]?=some (af 0 0) by rw[<-S,dE (by omega),dE (by omega)];exact rh
  have O5:=show B.heap[b.heap.size]?=some (af (m.1) (m.2)) by rw[<-S,dE (by omega),dE (by omega)];exact pQ
  have cj:=show J b B by rw[<-S];exact(bF.setCell (show b.heap.size<=b.heap.size+1+1 by omega) _).setCell (show b.heap.size<=b.heap.size+1+1 by omega) _
  replace x0:=(bD O5).1;replace x1:=(bD O5).2;replace z0:=(bD mA).1;replace z1:=(bD mA).2;go_wp2_with fail
  refine(A0 _ cj).mono ?_;rintro s w4 ⟨rfl,C,Y,h6,pA,E⟩;have t:=(E.other _ (aU tn) (N _ (by omega))).trans tn;obtain⟨fT,fm⟩:=bD t;have mf:=cV t;have JJ:=aU t;have iZ:=ag h6;have I:=ag E;have gE:=ag pA;have sD:=aU tn;go_wp2;refine ey (v:=.agg #[A (gt+1),A a]) (by simp[results,results61,go_sem,fT,fm]) rfl ?_;have L:¬C (b.heap.size+1):=λhF=>by
   rcases I.o.sub _ hF with h|h
   .exact N _ (by omega) h
   omega
  have M:=HNI (b.heap.size+1) (by omega);exact⟨rfl,_,_,C,j,Y,(iZ.o.set _ L M).set _ L M,gE.o,((I.o.before cj).ym (by omega) _).ym (by omega) _,λ_ y=>y,λ_ y=>.inl y⟩)
end
section
variable {a b:Nat}{c:Nat->List ay}{d:ay}
def sQ (M:Nat->List ay) (c:Nat) (o:ay):Nat->List ay:=upd M c (M c++[o])
theorem pR(M:Nat->List ay)(c:Nat)(o:ay):sQ M c o c=M c++[o]:=bL _ _ _
theorem uI(M:Nat->List ay)(o:ay)(h:a≠b):sQ M b o a=M a:=ch _ _ h
theorem ac7{o:ay}(h:d∈c a):d∈sQ c b o a:=by
 by_cases e:a=b
 .subst e;rw[pR];simp_all
 rw[uI _ _ e];exact h
theorem ac8(M:Nat->List ay)(c e:Nat)(o:ay):(M e).length<=(sQ M c o e).length:=by
 by_cases a:e=c
 .subst a;rw[pR];simp
 rw[uI _ _ a];simp
theorem oE.add{o:ay}(h:oE a c d):oE a (sQ c b o) d:=by obtain⟨e,f,g⟩:=h;exact⟨e,f,ac7 g⟩
theorem MU.add{N:Nat}{M:Nat->List ay}{c:Nat}{o:ay}:∀{m:iv},MU N M m->MU N (sQ M c o) m
 |.inl _,⟨d,a⟩=>⟨d,λi b=>⟨(a i b).1,Cg (a i b).2 (by have :=ac8 M c i o;omega)⟩⟩
 |.inr _,h=>λy e=>(h y e).add
theorem ac9{M:Nat->List ay}{c:Nat}{o:ay}:∀n,yL (sQ M c o) n=yL M n+if c<n then 1 else 0
 |0=>by rfl
 |n+1=>by
  unfold yL;rw[ac9 n];by_cases h:n=c
  .subst h;rw[pR,a7 (by omega),bn (by omega),dh];rfl
  rw[uI _ _ h];by_cases a:c<n
  .rw[bn a,bn (by omega)];omega
  rw[a7 a,a7 (by omega)];omega
theorem ada{N:Nat}{M:Nat->List ay}(h:∀c,c<N->(M c).length<=60):∀n,n<=N->yL M n<=n*60
 |0,_=>bW _
 |n+1,a=>by have b:=ada h n (by omega);have d:=h n (by omega);unfold yL;omega
theorem take_add{d:Nat}{o:ay}(h:b<=(c a).length):(sQ c d o a).take b=(c a).take b:=by
 by_cases e:a=d
 .subst e;rw[pR,Ay h]
 rw[uI _ _ e]
theorem m9.add{N M gt b d f}(h:m9 N M gt b d f)(c:Nat)(o:ay):m9 N (sQ M c o) gt b d f:=by refine⟨λe a=>⟨(h.l3 e a).1,Cg (h.l3 e a).2 (by have :=ac8 M c e o;omega)⟩,?_,h.BM,λp g=>⟨(h.J3 p g).1.add,(h.J3 p g).2⟩,h.Wi⟩;rw[acH (M':=M) (has':=b) λe a=>take_add (by have :=h.l3 e a;omega)];exact h.perm
theorem adb{M:Nat->List ay}{a:Nat->Int}{c:Nat}{o:ay}{N:Nat}(b:∀e,e<N->0<=a e/\a e<=(M e).length)(f:a c=(M c).length):∀n,n<=N->(qx (sQ M c o) (upd a c (a c+1)) n).Perm (qx M a n++if c<n then[o] else[])
 |0,_=>by rfl
 |n+1,j=>by
  have ih:=adb (o:=o) b f n (by omega);rw[Dr,Dr];by_cases h:n=c
  .subst h;rw[pR,bL,bn (by omega)];rw[a7 (by omega),oM]at ih;have g:(M n++[o]).take (a n+1).toNat=M n++[o]:=kp (by simp_all);have i:(M n).take (a n).toNat=M n:=by simp_all
   rw[g,i,kr];exact ih.append_right _
  have k:=b n (by omega);rw[ch _ _ h,take_add (by omega)];by_cases d:c<n
  .rw[bn d]at ih;rw[bn (by omega)];refine(ih.append_right _).trans ?_;rw[kr,kr];exact YR _ YS
  rw[a7 d]at ih;rw[a7 (by omega),oM];rw[oM]at ih;exact ih.append_right _
theorem ed.wrote{s}(h:ed b c s)(C:a<b)(hl:(c a).length<60)(M:mY)(t:TypeId)(v:Value):
  ed b (sQ c a (lH a (s.gt a) (s.ai a) M t v)) (nB s a (s.gt a+1) (upd (s.ai a) a (s.ai a a+1)) (s.ar a++[lH a (s.gt a) (s.ai a) M t v]) (s.kept a++[lH a (s.gt a) (s.ai a) M t v]) (s.bt a)):=by
 obtain⟨o,N⟩:∃o,o=lH a (s.gt a) (s.ai a) M t v:=⟨_,rfl⟩;have br:o.op.id.1=s.gt a+1:=by rw[N];rfl
 have b4:o.op.id.2=(a:Int):=by rw[N];rfl
 have lT:o.op.cb=s.ai a a+1:=by rw[N];rfl
 rw[<-N];have bQ:=h.own a C;have hg0:=(h.xu a C).1;have eb:∀y∈c a,y.op.id.1<=s.gt a:=λy q=>by have Wl:oE b c y:=⟨a,C,q⟩;obtain⟨i,x,e,ck,a2,_⟩:=h.bJ.at C q;exact(h.copy a C).BM y (((h.copy a C).mem h.bJ Wl).2 (by rw[show y.op.id.2.toNat=a by omega];omega))
 have am1:j5 b (sQ c a o):=by
  refine⟨λe n i x=> ?_,λe n=> ?_,λe n=> ?_⟩
  .by_cases r:e=a
   .subst r;simp only[pR]at x⊢;rw[dh,wu]at x;by_cases S:i<(c e).length
    .rw[Cf S];exact h.bJ.id e n i S
    have F:i=(c e).length:=by omega
    subst F;rw[atO (bW _)];simp only[Nat.sub_self,YD];omega
   simp only[uI _ _ r]at x⊢;exact h.bJ.id e n i x
  .by_cases r:e=a
   .subst r;rw[pR,dh,wu];omega
   rw[uI _ _ r];exact h.bJ.len e n
  by_cases r:e=a
  .subst r;rw[pR];refine xQ.2 ⟨h.bJ.j1 e n,OJ _ _,λj z k B=> ?_⟩;obtain rfl:=fR.1 B;have :=eb j z;omega
  rw[uI _ _ r];exact h.bJ.j1 e n
 have P:∀j i,s.ai j i<=upd s.ai a (upd (s.ai a) a (s.ai a a+1)) j i:=λj i=>by
  by_cases U:j=a
  .subst U;rw[bL];by_cases W:i=j
   .subst W;rw[bL];omega
   rw[ch _ _ W];simp
  rw[ch _ _ U];simp
 have X:∀d,d<b->∀l,vP b c (s.ai d) d l->vP b (sQ c a o) (upd s.ai a (upd (s.ai a) a (s.ai a a+1)) d) d l:=λd w l E=>by
  refine⟨λi x=>⟨(E.1 i x).1,Cg (E.1 i x).2 (P d i)⟩,λy q D e n g u Y=> ?_⟩;have Q:g∈c e:=by
   by_cases r:e=a
   .subst r;rw[pR]at u;rcases dZ.1 u with u|u
    .exact u
    exfalso;obtain rfl:=fR.1 u;have h1:=(E.1 e n).2;have h2:=((h.copy d w).l3 e n).2;omega
   rw[uI _ _ r]at u;exact u
  by_cases I:d=a
  .subst I;rw[pR]at q;rcases dZ.1 q with q|q
   .exact E.2 y q D e n g Q Y
   obtain rfl:=fR.1 q;obtain⟨i,x,_,ck,a2,_⟩:=h.bJ.at n Q;have h1:=(E.1 e n).2;have :=(h.copy d w).BM g (((h.copy d w).mem h.bJ ⟨e,n,Q⟩).2 (by rw[show g.op.id.2.toNat=e by omega];omega));omega
  rw[uI _ _ I]at q;exact E.2 y q D e n g Q Y
 have bU:∀d,d<b->∀m,HR b c (s.ai d) d m->HR b (sQ c a o) (upd s.ai a (upd (s.ai a) a (s.ai a a+1)) d) d m:=λd w m=>by
  cases m with
  |inl l=>exact X d w (rowOf l)
  |inr _=>exact λ_=>trivial
 refine⟨am1,λe n=> ?_,λe n=> ?_,λe n=> ?_,λe n=> ?_,λe n y q=> ?_,λj k z B L m R=>(h.msgs j k z B L m R).add,λe n=> ?_,λj k z B L m R=>bU j z m (h.uE j k z B L m R),λj k z B L=>X k B _ (h.BN j k z B L),λe n g u d w=>Cg (h.BO e n g u d w) (P d _),λe n g u d w y q D=> ?_⟩
 .unfold nB;by_cases r:e=a
  .subst r;simp only[bL];refine⟨λi x=> ?_,?_,λy q=> ?_,λp au=>⟨((h.copy e n).J3 p au).1.add,((h.copy e n).J3 p au).2⟩,(h.copy e n).Wi⟩
   .by_cases F:i=e
    .subst F;rw[bL,pR,dh,wu];omega
    rw[ch _ _ F,uI _ _ F];exact(h.copy e n).l3 i x
   .have :=adb (o:=o) (h.copy e n).l3 bQ b (bW _);rw[bn n]at this;exact((h.copy e n).perm.append_right _).trans this.symm
   rcases dZ.1 q with q|q
   .have :=(h.copy e n).BM y q;omega
   obtain rfl:=fR.1 q;omega
  simp only[ch _ _ r];exact(h.copy e n).add a o
 .unfold nB;by_cases r:e=a
  .subst r;simp only[bL];rw[pR,dh,wu];omega
  simp only[ch _ _ r];rw[uI _ _ r];exact h.own e n
 .unfold nB;by_cases r:e=a
  .subst r;simp only[bL];refine xQ.2 ⟨h.j1 e n,OJ _ _,λj z k B=> ?_⟩;obtain rfl:=fR.1 B;have :=(h.copy e n).BM j z;exact(rU _ _).2 (.inl (by omega))
  simp only[ch _ _ r];exact h.j1 e n
 .unfold nB;by_cases r:e=a
  .subst r;simp only[bL];refine⟨by omega,λg u _=> ?_⟩;have :=u e n o (by rw[pR];simp);omega
  simp only[ch _ _ r];obtain⟨g0,g1⟩:=h.xu e n;exact⟨g0,λg u h0=>g1 g (λf aH y q=>u f aH y (ac7 q)) h0⟩
 .rw[ac9,bn C];by_cases r:e=a
  .subst r;rw[pR]at q;rcases dZ.1 q with q|q
   .have :=h.iY e n y q;omega
   obtain rfl:=fR.1 q;have :=(h.xu e n).2 (yL c b) h.iY (kG _);omega
  rw[uI _ _ r]at q;have :=h.iY e n y q;omega
 .unfold nB;by_cases r:e=a
  .subst r;simp only[bL];rw[h.k9 e n,kr]
  simp only[ch _ _ r];exact h.k9 e n
 replace D:upd s.ai a (upd (s.ai a) a (s.ai a a+1)) e d<y.op.cb:=D;by_cases I:d=a
 .subst I;rw[pR]at q;rcases dZ.1 q with q|q
  .exact h.Ds e n g u d w y q (Y9 (P e d) D)
  obtain rfl:=fR.1 q;have dO:g∈s.ar e:=by rw[h.k9 e n];exact p3 _ u
  have :=(h.copy d w).BM g (((h.copy d w).mem h.bJ ((h.copy e n).bJ dO)).2 (h.BO e n g u d w));omega
 rw[uI _ _ I]at q;exact h.Ds e n g u d w y q (Y9 (P e d) D)
theorem Fr.wrote(h:Fr b c)(l:MV (c a) d.op.chg):Fr b (sQ c a d):=λe g i f=>by
 by_cases j:e=a
 .subst j;simp only[pR]at f⊢;rw[dh,wu]at f;by_cases k:i<(c e).length
  .rw[Cf k,Ay (by omega)];exact h e g i k
  have m:i=(c e).length:=by omega
  simp_all
 simp only[uI _ _ j]at f⊢;exact h e g i f
end
section
open Go.RowKit Tryz
attribute [local go_sem ↓] Go.wp_at_zero Go.wp_at_succ
variable {a e f i:Nat}{b h:Nat->Prop}{c:World}{d:bx}
theorem Fp.after{W k l m g}(n:dp b l c W)(o:Fl h m c W)(i:Fp g a e f l m W k d):Fp g a e f b h c k d:=by obtain⟨p,q,r,s,⟨t,u⟩,j⟩:=i;exact⟨p,q,r,s,⟨n.trans t,o.trans u n.size⟩,j⟩
theorem adc {w:World} {F:Nat->Prop} {x:da} {M:Nat->List ay} (h:eC w f F b e i d x) (ok:ed e M d) {c:Nat} (s:c<e) (o:a<e) (z:c≠a) {m:iv} {Y:List iv} (L:d.ms c a=m::Y):
  ∃v l,iw w (x.gl c a) (x.gc c a) (v::l) (d.sh c a) (x.tF c a) (x.vN c a)/\O 75 #[Z f,v,A c,A a] (w.setChan (x.gc c a) 12 l.toArray (d.sh c a) (x.tF c a) (x.vN c a+1) false) λn w'=>(∃u,n=ad u)/\∃E,vQ e d c a E/\Fp x.gc f e i F b w w' E:=by
 have hN:=h.hN;obtain⟨t,v,l,aO,h1,h2,_,_⟩:=h.first s o z L
 have N:=h.k5 c a s o z;rw[aO]at N;refine⟨_,l,N,?_⟩;have P:=MN w (x.gc c a) 12 l.toArray (d.sh c a) (x.tF c a) (x.vN c a+1) false;have n4:=h.HO s o z N.taken P h2;have rZ:=Q0 (F:=F) (ca _ _) P (h.dW c a s o z).2;have r:=λk B=>rZ.other k (h.cI k B) (h.e0 k B)
 have oD:=h1.fW r P.size (λ_ y=>y);have C:=ok.msgs c a s o z m (by simp_all);have Q:ed e M (kl d c a Y):=ok.ms (λR S=>ok.msgs c a s o z R (by rw[L];exact jk _ S)) (λR S=>ok.uE c a s o z R (by rw[L];exact jk _ S));have r0:∀j,j<e->0<=d.ai a j/\d.ai a j<=60:=λj r=>by have av:=(ok.copy a o).l3 j r;have aD:=ok.bJ.len j r;omega
 have dO:∀{w':World} {E:bx},Fp x.gc f e i F b (w.setChan (x.gc c a) 12 l.toArray (d.sh c a) (x.tF c a) (x.vN c a+1) false) w' E->Fp x.gc f e i F b w w' E:=λqm=>qm.after rZ ⟨λk B=>⟨B,r k B⟩,λ_ B=>.inl B⟩
 unfold vQ;rw[L];cases m with
 |inl q=>
  obtain⟨g,zS,n,h9,BC⟩:=oD;rw[C.1]at n h9;rw[n];refine(amR n4 s o z h9 BC (λj r=>⟨(C.2 j r).1,(r0 j r).2⟩) (λj r=>by have aD:=ok.bJ.len j r;have :=(C.2 j r).2;omega) (λy I=>(ok.copy a o).copy ok.bJ ((ok.Dt o).subset I)) (((ok.copy a o).amJ ok.bJ).sublist ((ok.Dt o).map _))).mono ?_
  rintro n w4 ⟨U,ls,D,aE,W⟩;exact⟨U,_,⟨ls,D,aE,rfl⟩,dO W⟩
 |inr xs=>
  obtain⟨awd,n,L3⟩:=oD;rw[n];obtain⟨X,hn⟩:=Q.en o C;obtain⟨uy,hlen⟩:=Q.fin o C;refine(amS n4 s o z xs L3 (λy I=>(ok.bJ.cb (C y I)).2.2) hn (λp D=>by
   rw[(X p D).2];exact(ok.bJ.cb (X p D).1).2.1) (λj r=>by have :=r0 j r;exact⟨this.1,by show d.ai a j<=1000;omega⟩) uy (cd hlen (by omega)) (Q.ahead o C) (λy I=>by
   obtain⟨p,D,rfl⟩:=QK I;exact(ok.bJ.cb (X p D).1).2.2)).mono ?_
  rintro n w4 ⟨U,j4,ho,W⟩;exact⟨U,_,⟨j4,ho,rfl⟩,dO W⟩
def am2 (r N b:Nat) (F I:Nat->Prop) (s:bx) (c d:Nat) (w:World) (e:Ending) (f:World):Prop:=e=ad (A (if s.ms c d=[] then 12 else 0))/\∃a,vQ N s c d a/\yJ r N b F I w f a
theorem am3 {q:Nat} {x:da} {M:Nat->List ay} (j:eC c i b h a q d x) (ok:ed a M d) (r:e<a) (s:f<a) (t:e≠f):
  O 39 #[Z i,A e,A f] c λg w=>am2 i a q b h d e f c g w:=by
 have k:=ag (QZ j r s t);cases n:d.ms e f with
 |nil=>
  rw[bn n]at k;have p:=ag n;go_enter func39,ntmps39;go_wp2_with fail
  refine k.o.mono ?_;rintro g P ⟨rfl,rfl⟩;go_wp2;go_ret
  exact(show _/\_ from⟨by rw[bn p.o];rfl,d,(by unfold vQ;rw[p.o]),j.same (ca _ _)⟩)
 |cons m Q=>
  obtain⟨v,l,y,z⟩:=adc j ok r s t n;rw[a7 (by simp_all)]at k;have p:=ag n;go_enter func39,ntmps39;go_wp2_with fail
  refine k.o.mono ?_;rintro g R ⟨rfl,rfl⟩;go_wp2_with fail
  refine(QW y).mono ?_;rintro g S ⟨rfl,rfl⟩;go_wp2_with fail
  refine z.mono ?_;rintro g U ⟨⟨W,rfl⟩,B,C,D⟩;have u:=aN C D;go_wp2;go_ret
  obtain⟨E,F,I,L,N,_⟩:=u.2;exact(show _/\_ from⟨by rw[p.o];rfl,B,u.1,E,F,I,L,N⟩)
end
section
open Go.RowKit Tryz
variable {a e h i:Nat}{b:Nat->List ay}{c f:Nat->Prop}{d:bx}{j:World}{k:da}
structure ei (w:World) (r:Nat) (F I:Nat->Prop) (N sp:Nat) (M:Nat->List ay) (s:bx) (x:da):Prop where
 m:eC w r F I N sp s x
 ok:ed N M s
 md:Fr N M
theorem Q9 {α:Type} [DecidableEq α]:∀{l m:List α},l.Nodup->(∀a∈l,a∈m)->l.length<=m.length
 |[],_,_,_=>b6 _
 |a::l,m,h,c=>by
  obtain⟨f,d⟩:=oN.1 h;have :=Q9 (m:=m.erase a) d λb g=>by
   have i:b≠a:=λe=>by simp_all
   simp_all
  rw[List.length_erase_of_mem (c a kH)]at this;have j:=List.length_pos_of_mem (c a kH);simp only[iq];omega
theorem am4{R D j}(k:fO R D)(w:ha D)(x:rX R j)(S:j.length<=10000)(c:PId)(r:ByteArray)(s:PId):(fN D.1 D.2 c r s).aK.length<=10000/\((fN D.1 D.2 c r s).aK.map (·.1)).Nodup:=by
 have z:∀(l:List (PId×eP)) (d:List dr),l.Perm (d.map oz)->(l.map (·.1)).Nodup->(∀y∈d,y.dt∈j)->l.length<=10000:=λl d f b F=>by
  have :=Q9 (m:=j) b λa I=>by obtain⟨p,L,rfl⟩:=dF.1 I;obtain⟨y,g,rfl⟩:=dF.1 (f.mem_iff.1 L);exact F y g
  rw[c2]at this;omega
 unfold fN;split
 .rename_i t
  split
  .split
   .rename_i e u
    have b:=w.nW _ (gZ u);refine⟨?_,b⟩;obtain⟨o,h,v,M⟩:=k.el s e u;obtain⟨n,d,N⟩:=dF.1 M;obtain⟨_,_,q⟩:=k.br _ o h;obtain⟨_,_,U,B,_,f⟩:=q.sG v n d;rw[N,u]at B;cases B;exact z _ _ f b (x.dt _ o h n d)
   simp
  rename_i P
  split
  .rename_i W i
   split
   .rename_i X C
    have b:=w.gQ _ (gZ i) _ (gZ C);refine⟨?_,b⟩;cases h:bM R c with
    |none=>rw[k.fI c h]at i;cases i
    |some o=>
     obtain⟨Y,E,q⟩:=k.br c o h;rw[i]at E;cases E;have v:o.aS=false:=by unfold mX at t;rw[a7 P,i]at t;simp only[K4,Bool.true_and,o0,i,Za]at t;rw[<-q.aS];omega
     have f:=q.Jx v r;rw[C]at f;refine z _ _ f b λy g=> ?_
     unfold ju at g;split at g
     .rename_i n Q
      exact x.dt c o h n (D9 Q) y g
     cases g
   simp
  simp
 simp
theorem ei.doc {I:Nat->Prop} (g:ei j h c I e i b d k) (l:a<e):fO (c1 (d.ar a)) (k.q a).D/\ha (k.q a).D/\rX (c1 (d.ar a)) (((d.ar a).map λo=>o.op.id).reverse):=by have n:=(g.m.fi a l).kB.did;rw[<-c2 (f:=λo:ay=>o.op),wv]at n;obtain⟨r,s,_,t⟩:=g.m.lp a l;have p:l1 (k.q a).D0.1 ((k.q a).D0.2++(d.kept a).map (·.op)) (k.q a).D:=n;rw[t,<-ga,<-g.m.k9 a l]at p;exact am0 r s (ac0 g.ok.bJ g.md (g.ok.copy a l) (g.ok.j1 a l)) p
theorem ei.lp(g:ei j h c f e i b d k)(l:a<e):fO (c1 (d.ar a)) (k.q a).D:=(g.doc l).1
theorem ei.len{w r F I N a M s x}(h:ei w r F I N a M s x){c:Nat}(b:c<N):(s.ar c).length<=240:=by have d:=(h.ok.copy c b).len h.ok.bJ;have e:=h.m.hN;omega
theorem ei.xw(g:ei j h c f e i b d k)(r:a<e):J6 a (d.gt a) (d.ai a) (d.kept a) (k.q a):=by have u:=g.len r;have s:=g.ok.Dt r;have v:=s.length_le;have w:=g.m.hN;have x:=ada g.ok.bJ.len e (bW _);have y:=(g.ok.xu a r).2 (yL b e) g.ok.iY (kG _);have z:=g.ok.bJ.len a r;have B:=g.ok.own a r;refine⟨⟨(g.ok.xu a r).1,by omega⟩,⟨by omega,by omega⟩,λo t=>(g.ok.copy a r).BM o (s.subset t),by omega,?_⟩;obtain⟨l,n,p⟩:=g.doc r;exact am4 l n p (by rw[atP,c2];omega)
theorem ei.ix{w s x}(g:ei w i c f h s b d x)(k:e<h){y:PId}{o:bA}(l:bM (c1 (d.ar e)) y=some o)(n:o.aS=true):o.ss.length<=300:=by
 obtain⟨a,_,j⟩:=g.doc k;obtain⟨u,v,p⟩:=a.br y o l;have B:=g.len k;have :=Q9 (m:=((d.ar e).map λo=>o.op.id).reverse) (p.Hb n) λz t=>by obtain⟨q,r,rfl⟩:=dF.1 t;exact(j.slot y o l q r).resolve_left (p.sG n q r).2.1
 rw[c2,atP,c2]at this;omega
theorem ei.ak{w r F I N a M s x}(h:ei w r F I N a M s x){w':World}(b:J w w'):ei w' r F I N a M s x:=⟨h.m.ak b,h.ok,h.md⟩
end
section
open Go.RowKit Tryz
attribute [local go_sem ↓] Go.wp_at_zero Go.wp_at_succ
variable {a b j k:Nat}{c:Nat->List ay}{d h:Nat->Prop}{e r s:World}{f:da}{i:bx}{l:List bA}{m:PId}{n:Int}{q:bA}
theorem am5 (s:ByteArray) (w:World) (m:s.size<=maxLen):
  O 83 #[.string s] w λe l=>e=ad (.bool (lP s))/\l=w:=by
 by_cases c:0<s.size
 .by_cases d:s.size<=4
  .go_enter func83,ntmps83;go_wp2;go_loop [14] (λi=>∃k:Nat,k<=s.size/\i=A k/\Hq (letters (s.data.toList.take k)=true)) (λi=>s.size-(intOf i).toNat)
   case atStart=>exact⟨0,b6 _,rfl,rfl⟩
   case round=>
    obtain⟨k,n,rfl,f⟩:=hrel;by_cases b:k<s.size
    .by_cases g:(97:Int)<=s[k].toNat
     .by_cases j:(s[k].toNat:Int)<=122
      .have a:=ag (Zk b f.o g j);go_wp2;go_round
       case rel=>exact⟨k+1,by omega,by go_num,a⟩
       case measure=>simp[intOf];omega
      have a:Hq _:=OU b (λh=>j h.2);go_wp2;go_ret
      exact⟨og a.o.symm,rfl⟩
     have a:Hq _:=OU b (λh=>g h.1);go_wp2;go_ret
     exact⟨og a.o.symm,rfl⟩
    have e:letters s.data.toList=true:=by have :=f.o;rwa [kp (by simp;omega)]at this
    have a:=ag (show lP s=true by unfold lP;rw[e];simp[c,d]);go_wp2;go_ret
    exact⟨og a.o.symm,rfl⟩
  have a:=ag (show lP s=false by unfold lP;simp[d]);go_enter func83,ntmps83;go_wp2;go_ret
  exact⟨og a.o.symm,rfl⟩
 have a:=ag (show lP s=false by unfold lP;simp[c]);go_enter func83,ntmps83;go_wp2;go_ret
 exact⟨og a.o.symm,rfl⟩
theorem adg (a b:Int) (c:ByteArray) (w:World):O 84 #[.agg #[A a,A b],.string c] w λe d=>e=ad (.agg #[A a,A b,.string c,A 0,A 0])/\J w d:=by go_enter func84,ntmps84;go_wp2;refine ey (v:=.agg #[A a,A b,.string c,A 0,A 0]) (by simp[results,results84,go_sem]) rfl ?_;exact⟨rfl,(aV w (af a b)).alloc (by simp) (.cells #[A a,A b,.string c,A 0,A 0] 97)⟩
theorem Ra (a b c d:Int) (w:World):O 63 #[.agg #[A a,A b],.agg #[A c,A d]] w λe f=>e=ad (.agg #[A a,A b,.string ⟨#[]⟩,A c,A d])/\J w f:=by go_enter func63,ntmps63;go_wp2;refine ey (v:=.agg #[A a,A b,.string ⟨#[]⟩,A c,A d]) (by simp[results,results63,go_sem]) rfl ?_;exact⟨rfl,((aV w (af a b)).alloc (by simp) (af c d)).alloc (by simp;omega) (.cells #[A a,A b,.string ⟨#[]⟩,A c,A d] 97)⟩
theorem fO.ai{D}(h:fO l D)(x:PId):(bV x D.1).isSome=(bM l x).isSome:=by
 cases a:bM l x with
 |none=>rw[h.fI x a];rfl
 |some o=>obtain⟨c,b,_⟩:=h.br x o a;rw[b];rfl
theorem fO.a6{D}(h:fO l D)(a:bM l m=some q):o0 m D.1=q.aS:=by obtain⟨d,b,c⟩:=h.br m q a;unfold o0;rw[b];exact c.aS
def am6 (R:List bA) (x:PId) (a:Bool) (b:Nat) (e:Ending):Prop:=
 (∃m,(m=3\/m=4)/\qP R x a=.error m/\e=ad (.tuple #[.pointer none,A m]))\/∃o,bM R x=some o/\o.aS=a/\e=ad (.tuple #[Z b,A 0])
theorem Rb {F I:Nat->Prop} (h:ei e a F I b j c i f) (l:Nat) (P:l<b) (n p:Int) (r:Bool):
  O 56 #[Z a,A l,.agg #[A n,A p],.bool r] e λg v=>J e v/\am6 (c1 (i.ar l)) (n,p) r (f.eR l) g:=by
 have Q:=h.m.fi l P;have J7:=h.lp P;have s:=aV e (af n p);have E:=bZ e (af n p);have fs:=MQ (h.m.ak s) l P;have S:=λW (w:J e W)=>Bx (Q.ak w)
 have L:=ag (show ∀W,J e W->O 89 #[Z ((f.q l).d),.agg #[A n,A p]] W λg v=>g=ad (.bool (bM (c1 (i.ar l)) (n,p)).isSome)/\J W v from λW w=>by rw[<-J7.ai];exact LM (Q.kB.q.ak w) n p)
 have cr:=show ∀o,bM (c1 (i.ar l)) (n,p)=some o->∀W,J e W->O 90 #[Z ((f.q l).d),.agg #[A n,A p]] W λg v=>g=ad (.bool o.aS)/\J W v from λo al W w=>by rw[<-J7.a6 al];exact CG (Q.kB.q.ak w) n p
 have ci:=Mm (c1 (i.ar l)) (n,p) r;generalize c1 (i.ar l)=R at *;rcases ci with⟨t,h2⟩|⟨o,k,t,h2,ax⟩
 .rw[t]at L;have M:=ag (aN t h2);go_enter func56,ntmps56;go_wp2_with fail
  refine fs.mono ?_;rintro g w0 ⟨rfl,U⟩;subst U;go_wp2_with fail
  go_region_held3 (λW=>W.cell? (V e 0)=some (A n)/\W.cell? (V e 1)=some (A p)) (first |exact bD E|exact bD x.o|exact bD y.o)
   (first
    |(go_at_call 48;refine(S _ s.drew).mono ?_;rintro g X ⟨rfl,z⟩;have y:=ag (bB E (Hq.o (nv z)));have B:=ag (s.drew.trans (z.mono s.size)))
    |(go_at_call 89;refine(L.o X B.o).mono ?_;rintro g w2 ⟨rfl,C⟩;have x:=ag (bB y.o C);have D:=ag (bp B.o C)))
  all_goals go_wp2
  all_goals go_ret2
  all_goals exact⟨D.o,.inl ⟨3,.inl rfl,M.o.2,rfl⟩⟩
 rw[t]at L;have vu:=ag (cr o t);have M:=ag (aN t ax);obtain⟨u,Y⟩:∃u,o.aS=u:=⟨_,rfl⟩;rw[Y]at vu;have Qc:(u=r/\bM R (n,p)=some o/\o.aS=r)\/(u≠r/\qP R (n,p) r=.error 4):=by
  by_cases g:u=r
  .exact .inl ⟨g,M.o.1,Y.trans g⟩
  refine .inr ⟨g,?_⟩;rw[M.o.2,a7 (by rw[Y];exact g)]
 cases u<;>cases r
 all_goals go_enter func56,ntmps56
 all_goals go_wp2_with fail
 all_goals refine fs.mono ?_
 all_goals rintro g w0 ⟨rfl,U⟩
 all_goals subst U
 all_goals go_wp2_with fail
 all_goals(go_region_held3 (λW=>W.cell? (V e 0)=some (A n)/\W.cell? (V e 1)=some (A p)) (first |exact bD E|exact bD x.o|exact bD y.o)
  (first
   |(go_at_call 48;refine(S _ s.drew).mono ?_;rintro g X ⟨rfl,z⟩;have y:=ag (bB E (Hq.o (nv z)));have B:=ag (s.drew.trans (z.mono s.size)))
   |(go_at_call 89;refine(L.o X B.o).mono ?_;rintro g w2 ⟨rfl,C⟩;have x:=ag (bB y.o C);have D:=ag (bp B.o C))))
 all_goals go_wp2_with fail
 all_goals(go_region_held3 (λW=>W.cell? (V e 0)=some (A n)/\W.cell? (V e 1)=some (A p)) (first |exact bD x.o|exact bD hr.o|exact bD eQ.o)
  (first
   |(go_at_call 48;refine(S _ D.o.drew).mono ?_;rintro g w3 ⟨rfl,bu⟩;have eQ:=ag (bB x.o (Hq.o (nv bu)));have cj:=D.o.drew.trans (bu.mono D.o.size))
   |(go_at_call 90;refine(vu.o w3 cj).mono ?_;rintro g w4 ⟨rfl,hY⟩;have hr:=ag (bB eQ.o hY))))
 all_goals go_wp2
 all_goals go_ret2
 all_goals(
  refine⟨bp cj hY,?_⟩;rcases Qc with⟨g,N⟩|⟨g,N⟩
  .first
    |exact .inr ⟨o,N.1,N.2,rfl⟩
    |(exact absurd g (by decide))
  first
   |exact .inl ⟨4,.inr rfl,N,rfl⟩
   |(exact absurd rfl g))
theorem am7{key:ByteArray}(h:qP l m false=.error n):nh l m key=.error n:=by unfold nh;rw[h]
theorem Dx{key:ByteArray}(b:bM l m=some q)(c:q.aS=false):nh l m key=if lP key then .ok (ju q key (0,0)) else .error 5:=by
 unfold nh;rcases Mm l m false with⟨a,_⟩|⟨d,k,a,e,f⟩
 .simp_all
 simp_all
theorem Rc(h:qP l m true=.error n):jU l m=.error n:=by unfold jU;rw[h]
theorem tI(b:bM l m=some q)(c:q.aS=true):jU l m=.ok (eJ q):=by
 unfold jU;rcases Mm l m true with⟨a,_⟩|⟨d,k,a,e,f⟩
 .simp_all
 simp_all
theorem zV(h:Below b e r)(j:b<=a)(f g c d i:Value):Below b e (((((r.setCell (H a) f).setCell (K a 1) g).setCell (K a 2) c).setCell (K a 3) d).setCell (K a 4) i):=
 ((((h.setCell j f).setCell j g).setCell j c).setCell j d).setCell j i
def am8 (R:List bA) (x:PId) (a:ByteArray) (b:Nat) (e:Ending):Prop:=
 (∃m,(m=3\/m=4\/m=5)/\nh R x a=.error m/\e=ad (.tuple #[.pointer none,.agg #[A 0,A 0,.string ⟨#[]⟩,A 0,A 0],A m]))\/
 ∃o,bM R x=some o/\o.aS=false/\lP a=true/\nh R x a=.ok (ju o a (0,0))/\e=ad (.tuple #[Z b,.agg #[A x.1,A x.2,.string a,A 0,A 0],A 0])
theorem Re (l:ei e a d h b j c i f) (g:Nat) (P:g<b) (n p:Int) (key:ByteArray) (Q:key.size<=maxLen):
  O 46 #[Z a,A g,.agg #[A n,A p],.string key] e λk w'=>J e w'/\am8 (c1 (i.ar g)) (n,p) key (f.eR g) k:=by
 have C:=ag ((aV e (af n p)).alloc (by simp) (.cells #[A 0,A 0,.string ⟨#[]⟩,A 0,A 0] 97));have S:=ag (show((e.alloc (af n p)).alloc (.cells #[A 0,A 0,.string ⟨#[]⟩,A 0,A 0] 97)).heap[e.heap.size]?=some (af n p) from(is _ _ (by simp)).trans (bZ e _));have U:=ag (show((e.alloc (af n p)).alloc (.cells #[A 0,A 0,.string ⟨#[]⟩,A 0,A 0] 97)).heap[e.heap.size+1]?=some (.cells #[A 0,A 0,.string ⟨#[]⟩,A 0,A 0] 97) from(by have :=bZ (e.alloc (af n p)) (.cells #[A 0,A 0,.string ⟨#[]⟩,A 0,A 0] 97);rw[show(e.alloc (af n p)).heap.size=e.heap.size+1 by simp]at this;exact this))
 have X:=ag (Rb (l.ak C.o) g P n p false);clear l;generalize c1 (i.ar g)=R at *;have Y:=ag (λW=>am5 key W Q);go_enter func46,ntmps46;go_wp2_with fail
 refine X.o.mono ?_;rintro k w1 ⟨s,HX⟩;have cg:=ag (bB S.o s);have t:=ag (bB U.o s);have u:=ag (bp C.o s);clear s;obtain⟨Rf,Rg⟩:=bD cg.o;obtain⟨D,E,F,I,L⟩:=fh t.o;have pt:=cV t.o;have MY:=aU t.o;rcases HX with⟨m,hm,M,rfl⟩|⟨o,x,y,rfl⟩
 .have q:=ag (am7 (key:=key) M);clear M;rcases hm with rfl|rfl
  all_goals go_wp2
  all_goals refine ey (v:=.tuple #[.pointer none,.agg #[A 0,A 0,.string ⟨#[]⟩,A 0,A 0],A _]) (by simp[results,results46,go_sem,D,E,F,I,L];rfl) rfl ?_
  .exact⟨zV u.o (by omega) _ _ _ _ _,.inl ⟨3,.inl rfl,q.o,rfl⟩⟩
  exact⟨zV u.o (by omega) _ _ _ _ _,.inl ⟨4,.inr (.inl rfl),q.o,rfl⟩⟩
 have q:=ag (Dx (key:=key) x y);have N:=ag (aN x y);clear x y;go_wp2_with fail
 refine(Y.o _).mono ?_;rintro k w2 ⟨rfl,e4⟩;subst e4;cases r:lP key
 .have w:=ag (show nh R (n,p) key=.error 5 by rw[q.o,r];simp);clear r;go_wp2;refine ey (v:=.tuple #[.pointer none,.agg #[A 0,A 0,.string ⟨#[]⟩,A 0,A 0],A 5]) (by simp[results,results46,go_sem,D,E,F,I,L]) rfl ?_;exact⟨zV u.o (by omega) _ _ _ _ _,.inl ⟨5,.inr (.inr rfl),w.o,rfl⟩⟩
 have w:=ag (show lP key=true/\nh R (n,p) key=.ok (ju o key (0,0)) from⟨r,by rw[q.o,r];simp⟩);clear r;go_wp2_with fail
 refine(adg n p key _).mono ?_;rintro k w3 ⟨rfl,z⟩;have B:=ag (bB t.o z);have cj:=ag (bp u.o z);clear z;obtain⟨z0,z1,z2,z3,z4⟩:=fh B.o;have HU:=cV B.o;have awe:=aU B.o;go_wp2;refine ey (v:=.tuple #[Z (f.eR g),.agg #[A n,A p,.string key,A 0,A 0],A 0]) (by simp[results,results46,go_sem,z0,z1,z2,z3,z4]) rfl ?_;exact⟨zV cj.o (by omega) _ _ _ _ _,.inr ⟨o,N.o.1,N.o.2,w.o.1,w.o.2,rfl⟩⟩
def am9 (R:List bA) (x:PId) (i:Int) (a:Nat) (e:Ending):Prop:=
 (∃m,(m=3\/m=4)/\jU R x=.error m/\e=ad (.tuple #[.pointer none,A m]))\/
 ∃o,bM R x=some o/\o.aS=true/\jU R x=.ok (eJ o)/\((lC (eJ o) i=none/\e=ad (.tuple #[.pointer none,A 7]))\/∃b,lC (eJ o) i=some b/\e=ad (.tuple #[Z a,A 0]))
def ana (R:List bA) (x:PId) (i:Int) (a:Nat) (e:Ending):Prop:=
 (∃m,(m=3\/m=4)/\jU R x=.error m/\e=ad (.tuple #[.pointer none,.agg #[A 0,A 0,.string ⟨#[]⟩,A 0,A 0],A m]))\/
 ∃o,bM R x=some o/\o.aS=true/\jU R x=.ok (eJ o)/\(((i<0\/((eJ o).length:Int)<=i)/\e=ad (.tuple #[.pointer none,.agg #[A 0,A 0,.string ⟨#[]⟩,A 0,A 0],A 7]))\/(¬(i<0\/((eJ o).length:Int)<=i)/\∃y,(eJ o)[i.toNat]?=some y/\e=ad (.tuple #[Z a,.agg #[A x.1,A x.2,.string ⟨#[]⟩,A y.1,A y.2],A 0])))
theorem Wp{l:List PId}:lC l n=none↔(n<0\/(l.length:Int)<n):=by
 unfold lC;by_cases h:n<0\/n>(l.length:Int)
 .simp_all
 rw[a7 h];constructor
 .intro a;split at a
  .cases a
  rw[List.getElem?_eq_none_iff]at a;omega
 omega
theorem adh {I:Nat->Prop} (h:ei e a d I b j c i f) (g:Nat) (w:g<b) (s t k:Int):
  O 59 #[Z a,A g,.agg #[A s,A t],A k] e λl w'=>J e w'/\am9 (c1 (i.ar g)) (s,t) k (f.eR g) l:=by
 have M:=h.m.fi g w;have J7:=h.lp w;have B:=aV e (af s t);have N:=bZ e (af s t);have P:=Rb (h.ak B) g w s t true;have jw:=λW (C:J e W)=>Bx (M.ak C)
 have CQ:=ag (λo (q:bM (c1 (i.ar g)) (s,t)=some o) (z:o.aS=true)=>M.elements J7 q z (cd (h.ix w q z) (by omega)));have xZ:=ag (show ∀o,bM (c1 (i.ar g)) (s,t)=some o->o.aS=true->(eJ o).length<=300 from λo q z=>by
  have h1:=h.ix w q z;have ax:(eJ o).length<=o.ss.length:=by unfold eJ;rw[c2];exact r7 _ _
  omega)
 generalize c1 (i.ar g)=R at *;by_cases D:k<0
 .have hdi:=nJ D;go_enter func59,ntmps59;go_wp2_with fail
  refine P.mono ?_;rintro l w1 ⟨x,E⟩;have y:=ag (bB N x);have r:=ag (bp B x);obtain⟨Rf,Rg⟩:=bD y.o;rcases E with⟨m,F,L,rfl⟩|⟨o,q,v,rfl⟩
  .have p:=ag (Rc L);rcases F with rfl|rfl
   .go_wp2;go_ret2
    exact⟨r.o,.inl ⟨3,.inl rfl,p.o,rfl⟩⟩
   go_wp2;go_ret2
   exact⟨r.o,.inl ⟨4,.inr rfl,p.o,rfl⟩⟩
  have p:=ag (aN q (aN v (tI q v)));go_wp2_with fail
  go_quiet (fail)
  go_wp2;go_ret2
  exact⟨io r.o _,.inr ⟨o,p.o.1,p.o.2.1,p.o.2.2,.inl ⟨Wp.2 (.inl D),rfl⟩⟩⟩
 have hdi:=p2 D;go_enter func59,ntmps59;go_wp2_with fail
 refine P.mono ?_;rintro l w1 ⟨x,E⟩;have y:=ag (bB N x);have r:=ag (bp B x);obtain⟨Rf,Rg⟩:=bD y.o;rcases E with⟨m,F,L,rfl⟩|⟨o,q,v,rfl⟩
 .have p:=ag (Rc L);rcases F with rfl|rfl
  .go_wp2;go_ret2
   exact⟨r.o,.inl ⟨3,.inl rfl,p.o,rfl⟩⟩
  go_wp2;go_ret2
  exact⟨r.o,.inl ⟨4,.inr rfl,p.o,rfl⟩⟩
 have p:=ag (aN q (aN v (tI q v)));have vu:=CQ.o o q v;have hlen:=xZ.o o q v;have anb:(k>((eJ o).length:Int))\/¬(k>((eJ o).length:Int)):=by omega
 rcases anb with oT|eb
 all_goals go_wp2_with fail
 all_goals(go_region_held3 (λW=>W.cell? (V e 0)=some (A s)/\W.cell? (V e 1)=some (A t)) (first |exact bD y.o|exact bD eQ.o|exact bD Q.o)
  (first
   |(go_at_call 48;refine(jw _ r.o.drew).mono ?_;rintro l w2 ⟨rfl,S⟩;have Q:=ag (bB y.o (Hq.o (nv S)));have U:=r.o.drew.trans (S.mono r.o.size))
   |(go_at_call 57;refine(vu w2 U).mono ?_;rintro l w3 ⟨u,rfl,hu,X⟩;obtain⟨lW,lX,rfl,_,_,_⟩:=bz hu;have eQ:=ag (bB Q.o X);have Y:=bp U X)))
 .go_wp2;go_ret2
  exact⟨Y,.inr ⟨o,p.o.1,p.o.2.1,p.o.2.2,.inl ⟨Wp.2 (.inr oT),rfl⟩⟩⟩
 have Z5:decide (((eJ o).length:Int)<k)=false:=p2 (by omega);go_wp2;go_ret2
 refine⟨Y,.inr ⟨o,p.o.1,p.o.2.1,p.o.2.2,.inr ?_⟩⟩;cases C:lC (eJ o) k with
 |some n=>exact⟨n,rfl,rfl⟩
 |none=>exfalso;have :=Wp.1 C;omega
theorem adi {I:Nat->Prop} (h:ei e a d I b j c i f) (g:Nat) (C:g<b) (p q l:Int):
  O 64 #[Z a,A g,.agg #[A p,A q],A l] e λn w'=>J e w'/\ana (c1 (i.ar g)) (p,q) l (f.eR g) n:=by
 have X:=h.m.fi g C;have J7:=h.lp C;have Y:=(aV e (af p q)).alloc (by simp) (.cells #[A 0,A 0,.string ⟨#[]⟩,A 0,A 0] 97);have dg:=show((e.alloc (af p q)).alloc (.cells #[A 0,A 0,.string ⟨#[]⟩,A 0,A 0] 97)).heap[e.heap.size]?=some (af p q) from(is _ _ (by simp)).trans (bZ e _)
 have uH:=show((e.alloc (af p q)).alloc (.cells #[A 0,A 0,.string ⟨#[]⟩,A 0,A 0] 97)).heap[e.heap.size+1]?=some (.cells #[A 0,A 0,.string ⟨#[]⟩,A 0,A 0] 97) from(by
  have :=bZ (e.alloc (af p q)) (.cells #[A 0,A 0,.string ⟨#[]⟩,A 0,A 0] 97)
  simp_all)
 have J8:=Rb (h.ak Y) g C p q true;have jw:=λW (ah:J e W)=>Bx (X.ak ah)
 have CQ:=ag (λo (s:bM (c1 (i.ar g)) (p,q)=some o) (E:o.aS=true)=>X.elements J7 s E (cd (h.ix C s E) (by omega)));have xZ:=ag (show ∀o,bM (c1 (i.ar g)) (p,q)=some o->o.aS=true->(eJ o).length<=300 from λo s E=>by
  have h1:=h.ix C s E;have ax:(eJ o).length<=o.ss.length:=by unfold eJ;rw[c2];exact r7 _ _
  omega)
 generalize c1 (i.ar g)=R at *;go_enter func64,ntmps64;go_wp2_with fail
 refine J8.mono ?_;rintro n w1 ⟨N,HX⟩;have P:=bB dg N;have F:=bB uH N;have D:=bp Y N;obtain⟨Rf,Rg⟩:=bD P;rcases HX with⟨m,hm,au,rfl⟩|⟨o,s,L,rfl⟩
 .have r:=ag (Rc au);obtain⟨t,w,x,y,z⟩:=fh F;have pt:=cV F;have MY:=aU F;rcases hm with rfl|rfl
  .go_wp2;refine ey (v:=.tuple #[.pointer none,.agg #[A 0,A 0,.string ⟨#[]⟩,A 0,A 0],A 3]) (by simp[results,results64,go_sem,t,w,x,y,z]) rfl ?_;exact⟨zV D (by omega) _ _ _ _ _,.inl ⟨3,.inl rfl,r.o,rfl⟩⟩
  go_wp2;refine ey (v:=.tuple #[.pointer none,.agg #[A 0,A 0,.string ⟨#[]⟩,A 0,A 0],A 4]) (by simp[results,results64,go_sem,t,w,x,y,z]) rfl ?_;exact⟨zV D (by omega) _ _ _ _ _,.inl ⟨4,.inr rfl,r.o,rfl⟩⟩
 have r:=ag (aN s (aN L (tI s L)));have vu:=CQ.o o s L;have hlen:=xZ.o o s L;go_wp2_with fail
 go_region_held3 (λW=>W.cell? (V e 0)=some (A p)/\W.cell? (V e 1)=some (A q)) (first |exact bD P|exact bD eQ.o|exact bD c7.o)
  (first
   |(go_at_call 48;refine(jw _ D.drew).mono ?_;rintro n w2 ⟨rfl,Q⟩;have c7:=ag (bB P (Hq.o (nv Q)));have kR:=bB F (Hq.o (nv Q));have bF:=D.drew.trans (Q.mono D.size))
   |(go_at_call 57;refine(vu w2 bF).mono ?_;rintro n w3 ⟨u,rfl,hu,S⟩;obtain⟨lW,lX,rfl,xV,ya,kf⟩:=bz hu;have ul:=ag kf;have kw:=ag hu;have eQ:=ag (bB c7.o S);have M:=ag (bB kR S);have U:=ag (bp bF S)))
 unfold maxLen at ya;obtain⟨t,w,x,y,z⟩:=fh M.o;have pt:=cV M.o;have MY:=aU M.o;obtain⟨z0,z1⟩:=bD eQ.o;by_cases om:l<0
 .go_wp2;refine ey (v:=.tuple #[.pointer none,.agg #[A 0,A 0,.string ⟨#[]⟩,A 0,A 0],A 7]) (by simp[results,results64,go_sem,t,w,x,y,z]) rfl ?_;exact⟨zV U.o (by omega) _ _ _ _ _,.inr ⟨o,r.o.1,r.o.2.1,r.o.2.2,.inl ⟨.inl om,rfl⟩⟩⟩
 by_cases kv:((eJ o).length:Int)<=l
 .go_wp2;refine ey (v:=.tuple #[.pointer none,.agg #[A 0,A 0,.string ⟨#[]⟩,A 0,A 0],A 7]) (by simp[results,results64,go_sem,t,w,x,y,z]) rfl ?_;exact⟨zV U.o (by omega) _ _ _ _ _,.inr ⟨o,r.o.1,r.o.2.1,r.o.2.2,.inl ⟨.inr kv,rfl⟩⟩⟩
 obtain⟨k,rfl⟩:∃k:Nat,l=(k:Int):=⟨l.toNat,by omega⟩;have aB:k<(eJ o).length:=by omega
 obtain⟨wV,rfl⟩:=ul.o k aB;obtain⟨u0,u1⟩:=fu.cells kw.o.ids rfl k aB;have uG:(k:Int)<((eJ o).length:Int):=by omega
 have HGL:=ag (cX kw.o wV rfl);go_wp2_with fail
 go_region_with
  (first |(go_at_call 63;refine(Ra p q _ _ _).mono ?_;rintro n w4 ⟨rfl,hY⟩;have A4:=Hq.o (nv hY);have B:=ag (bB M.o A4);have hZ:=ag (bp U.o A4);replace t:=(fh B.o).1;replace w:=(fh B.o).2.1;replace x:=(fh B.o).2.2.1;replace y:=(fh B.o).2.2.2.1;replace z:=(fh B.o).2.2.2.2;replace pt:=cV B.o;replace MY:=aU B.o))
 all_goals go_wp2
 all_goals refine ey (v:=.tuple #[Z (f.eR g),.agg #[A p,A q,.string ⟨#[]⟩,A (eJ o)[k].1,A (eJ o)[k].2],A 0]) (by simp[results,results64,go_sem,t,w,x,y,z]) rfl ?_
 all_goals exact⟨zV hZ.o (by omega) _ _ _ _ _,.inr ⟨o,r.o.1,r.o.2.1,r.o.2.2,.inr ⟨by omega,(eJ o)[k],by simp,rfl⟩⟩⟩
def gq (s:bx) (c:Nat) (chg:mY) (t:TypeId) (v:Value):bx:=nB s c (s.gt c+1) (upd (s.ai c) c (s.ai c c+1)) (s.ar c++[lH c (s.gt c) (s.ai c) chg t v]) (s.kept c++[lH c (s.gt c) (s.ai c) chg t v]) (s.bt c)
def ri (r N e:Nat) (F I:Nat->Prop) (w a:World) (f:Nat->Nat) (M:Nat->List ay) (s:bx):Prop:=∃b c d,ei a r b c N e M s d/\d.eR=f/\dp F b w a/\Fl I c w a
def MZ (r N b:Nat) (F I:Nat->Prop) (w d:World) (e:Nat->Nat) (M:Nat->List ay) (s:bx) (c:Nat) (a:mY):Prop:=s.ai c c<60/\∃t v,ri r N b F I w d e (sQ M c (lH c (s.gt c) (s.ai c) a t v)) (gq s c a t v)
def anc (r N g:Nat) (F I:Nat->Prop) (M:Nat->List ay) (s:bx) (x:da) (c:Nat) (a b n:Int) (d:ByteArray) (w:World) (e:Ending) (h:World):Prop:=
   (∃m,(nh (c1 (s.ar c)) (a,b) d=.error m\/(m=8/\(∃o,bM (c1 (s.ar c)) (a,b)=some o/\o.aS=false/\lP d=true)/\¬s.ai c c<60))/\e=ad (A m)/\ri r N g F I w h x.eR M s)\/
   (∃o f,bM (c1 (s.ar c)) (a,b)=some o/\o.aS=false/\lP d=true/\f.Perm ((fN (x.q c).D.1 (x.q c).D.2 (a,b) d (0,0)).aK.map (·.1))/\oB f/\e=ad (A 0)/\MZ r N g F I w h x.eR M s c (.inr (.inr (.inl ((a,b),d,(0,0),(n,(0,0)),f)))))
def ane (r N f:Nat) (F I:Nat->Prop) (M:Nat->List ay) (s:bx) (x:da) (c:Nat) (a b i n:Int) (w:World) (e:Ending) (g:World):Prop:=
   (∃m,(jU (c1 (s.ar c)) (a,b)=.error m\/(m=7/\∃o,bM (c1 (s.ar c)) (a,b)=some o/\o.aS=true/\(i<0\/((eJ o).length:Int)<=i))\/((m=8/\¬s.ai c c<60)/\∃o,bM (c1 (s.ar c)) (a,b)=some o/\o.aS=true/\¬(i<0\/((eJ o).length:Int)<=i)))/\e=ad (A m)/\ri r N f F I w g x.eR M s)\/
   (∃o y d,bM (c1 (s.ar c)) (a,b)=some o/\o.aS=true/\¬(i<0\/((eJ o).length:Int)<=i)/\(eJ o)[i.toNat]?=some y/\d.Perm ((fN (x.q c).D.1 (x.q c).D.2 (a,b) ⟨#[]⟩ y).aK.map (·.1))/\oB d/\e=ad (A 0)/\MZ r N f F I w g x.eR M s c (.inr (.inr (.inl ((a,b),⟨#[]⟩,y,(n,(0,0)),d)))))
def anf (r N f:Nat) (F I:Nat->Prop) (M:Nat->List ay) (s:bx) (x:da) (c:Nat) (a b i:Int) (w:World) (e:Ending) (g:World):Prop:=
   (∃m,(jU (c1 (s.ar c)) (a,b)=.error m\/(m=7/\∃o,bM (c1 (s.ar c)) (a,b)=some o/\o.aS=true/\(i<0\/((eJ o).length:Int)<=i))\/(m=8/\(∃o,bM (c1 (s.ar c)) (a,b)=some o/\o.aS=true/\¬(i<0\/((eJ o).length:Int)<=i))/\¬s.ai c c<60))/\e=ad (A m)/\ri r N f F I w g x.eR M s)\/
   (∃o y d,bM (c1 (s.ar c)) (a,b)=some o/\o.aS=true/\¬(i<0\/((eJ o).length:Int)<=i)/\(eJ o)[i.toNat]?=some y/\d.Perm ((fN (x.q c).D.1 (x.q c).D.2 (a,b) ⟨#[]⟩ y).aK.map (·.1))/\oB d/\e=ad (A 0)/\MZ r N f F I w g x.eR M s c (.inr (.inr (.inr ((a,b),⟨#[]⟩,y,d)))))
theorem ei.left{w N}(e:ei w a d h N b c i f){w':World}(j:J w w'):ri a N b d h w w' f.eR c i:=⟨d,h,f,e.ak j,rfl,dp.cL j,λk g=>⟨g,j.block k (e.m.cI k g)⟩,λ_ g=>.inl g⟩
theorem ei.Ri{p}(g:ei e k h d b j c i f)(o:J e r)(u:a<b)(z:i.ai a a<60)(B:MV (c a) p)(C:BP (f.jh a) d b j a (f.eR a) (i.gt a) (i.ai a) (i.kept a) (i.bt a) (f.q a) r s p):MZ k b j h d e s f.eR c i a p:=by obtain⟨t,v,P,D,Q,E,F,I,w,x⟩:=C;obtain⟨L,M,y,N,_⟩:=(g.m.ak o).Wf u E I w x F (ops':=i.ar a++[lH a (i.gt a) (i.ai a) p t v]) (by rw[g.m.k9 a u,kr]);have R:=g.ok.own a u;refine⟨z,t,v,_,D,L,⟨M,g.ok.wrote u (by omega) p t v,g.md.wrote B⟩,N,y.before o,λl n=>⟨w l n,?_⟩,λl n=>(x l n).imp id λg=>cd o.size g⟩;exact(y.other l (c0 (g.m.cI l n) o.size) (g.m.e0 l n)).trans (o.block l (g.m.cI l n))
theorem ang (g:ei e b d h j k c i f) (u:a<j) (p q n:Int) (r:ByteArray) (E:r.size<=maxLen):
  O 23 #[Z b,A a,.agg #[A p,A q],.string r,A n] e λl F=>anc b j k d h c i f a p q n r e l F:=by
 have D:=aV e (af p q);have S:=ag (bZ e (af p q));go_enter func23,ntmps23;go_wp2_with fail
 refine(Re (g.ak D) a u p q r E).mono ?_;rintro l U ⟨I,L⟩;have v:=bp D I;rcases L with⟨m,M,s,rfl⟩|⟨o,N,P,Q,X,rfl⟩
 .rcases M with rfl|rfl|rfl
  all_goals go_wp2
  all_goals go_ret
  all_goals exact(show _\/_ from .inl ⟨_,.inl s,rfl,g.left (v.alloc v.size _)⟩)
 have w:=aN N (aN P Q);have y:=v.alloc v.size (.cells #[A p,A q,.string r,A 0,A 0] 97);go_wp2_with fail
 refine((λW (z:J e W)=>ac4 ((g.ak z).m.fi a u) (g.xw u) (p,q) (0,0) r n) _ y).mono ?_;rintro l Y (⟨t,rfl,R,s,B,C⟩|⟨t,rfl,z⟩)
 .have x:=ag (aN t (aN s (aN B C)));go_wp2;go_ret
  obtain⟨t,s,B,C⟩:=x.o;exact(show _\/_ from .inr ⟨o,R,w.1,w.2.1,w.2.2,s,B,rfl,g.Ri y u t ⟨λ_=>rfl,.inl rfl⟩ C⟩)
 have x:=ag (aN t (bp y z));go_wp2;go_ret
 exact(show _\/_ from .inl ⟨8,.inr ⟨rfl,⟨o,w⟩,Zb.2 x.o.1⟩,rfl,g.left x.o.2⟩)
theorem anh (g:ei e b d h j k c i f) (w:a<j) (r s l n:Int):
  O 33 #[Z b,A a,.agg #[A r,A s],A l,A n] e λp N=>ane b j k d h c i f a r s l n e p N:=by
 have I:=aV e (af r s);go_enter func33,ntmps33;go_wp2_with fail
 refine(adi (g.ak I) a w r s l).mono ?_;rintro p Y ⟨P,Q⟩;have t:=bp I P;rcases Q with⟨m,R,u,rfl⟩|⟨o,L,M,eZ,⟨z,rfl⟩|⟨z,y,S,rfl⟩⟩
 .have B:=ag u;rcases R with rfl|rfl
  all_goals go_wp2
  all_goals go_ret
  all_goals exact(show _\/_ from .inl ⟨_,.inl B.o,rfl,g.left (t.alloc t.size _)⟩)
 .have B:=ag (aN L (aN M z));go_wp2;go_ret
  exact(show _\/_ from .inl ⟨_,.inr (.inl ⟨rfl,o,B.o⟩),rfl,g.left (t.alloc t.size _)⟩)
 have q:=aN L (aN M (aN z S));have C:=t.alloc t.size (.cells #[A r,A s,.string ⟨#[]⟩,A y.1,A y.2] 97);go_wp2_with fail
 refine((λW (D:J e W) (y:PId)=>ac4 ((g.ak D).m.fi a w) (g.xw w) (r,s) y ⟨#[]⟩ n) _ C y).mono ?_;rintro p w2 (⟨v,rfl,U,u,E,F⟩|⟨v,rfl,D⟩)
 .have x:=ag (aN v (aN u (aN E F)));go_wp2;go_ret
  obtain⟨v,u,E,F⟩:=x.o;exact(show _\/_ from .inr ⟨o,y,U,q.1,q.2.1,q.2.2.1,q.2.2.2,u,E,rfl,g.Ri C w v ⟨λX=>absurd rfl X,.inl rfl⟩ F⟩)
 have x:=ag (aN v (bp C D));go_wp2;go_ret
 exact(show _\/_ from .inl ⟨8,.inr (.inr ⟨⟨rfl,Zb.2 x.o.1⟩,o,q.1,q.2.1,q.2.2.1⟩),rfl,g.left x.o.2⟩)
theorem ani (g:ei e b d h j k c i f) (v:a<j) (q r l:Int):
  O 34 #[Z b,A a,.agg #[A q,A r],A l] e λn M=>anf b j k d h c i f a q r l e n M:=by
 have F:=aV e (af q r);go_enter func34,ntmps34;go_wp2_with fail
 refine(adi (g.ak F) a v q r l).mono ?_;rintro n X ⟨N,P⟩;have s:=bp F N;rcases P with⟨m,Q,t,rfl⟩|⟨o,I,L,Y,⟨x,rfl⟩|⟨x,y,R,rfl⟩⟩
 .have z:=ag t;rcases Q with rfl|rfl
  all_goals go_wp2
  all_goals go_ret
  all_goals exact(show _\/_ from .inl ⟨_,.inl z.o,rfl,g.left (s.alloc s.size _)⟩)
 .have z:=ag (aN I (aN L x));go_wp2;go_ret
  exact(show _\/_ from .inl ⟨_,.inr (.inl ⟨rfl,o,z.o⟩),rfl,g.left (s.alloc s.size _)⟩)
 have p:=aN I (aN L (aN x R));have B:=s.alloc s.size (.cells #[A q,A r,.string ⟨#[]⟩,A y.1,A y.2] 97);go_wp2_with fail
 refine((λW (C:J e W) (y:PId)=>ac5 ((g.ak C).m.fi a v) (g.xw v) (q,r) y ⟨#[]⟩) _ B y).mono ?_;rintro n w2 (⟨u,rfl,S,t,D,E⟩|⟨u,rfl,C⟩)
 .have w:=ag (aN u (aN t (aN D E)));go_wp2;go_ret
  obtain⟨u,t,D,E⟩:=w.o;exact(show _\/_ from .inr ⟨o,y,S,p.1,p.2.1,p.2.2.1,p.2.2.2,t,D,rfl,g.Ri B v u (λU=>absurd rfl U) E⟩)
 have w:=ag (aN u (bp B C));go_wp2;go_ret
 exact(show _\/_ from .inl ⟨8,.inr (.inr ⟨rfl,⟨o,p.1,p.2.1,p.2.2.1⟩,Zb.2 w.o.1⟩),rfl,g.left w.o.2⟩)
def anj (r N g:Nat) (F I:Nat->Prop) (M:Nat->List ay) (s:bx) (x:da) (c:Nat) (a b:Int) (d:ByteArray) (w:World) (e:Ending) (h:World):Prop:=
 (∃m,(nh (c1 (s.ar c)) (a,b) d=.error m\/(m=6/\(∃o,bM (c1 (s.ar c)) (a,b)=some o/\o.aS=false/\lP d=true)/\(fN (x.q c).D.1 (x.q c).D.2 (a,b) d (0,0)).aK=[])\/(m=8/\((∃o,bM (c1 (s.ar c)) (a,b)=some o/\o.aS=false/\lP d=true)/\(fN (x.q c).D.1 (x.q c).D.2 (a,b) d (0,0)).aK≠[])/\¬s.ai c c<60))/\e=ad (A m)/\ri r N g F I w h x.eR M s)\/
 (∃o f,bM (c1 (s.ar c)) (a,b)=some o/\o.aS=false/\lP d=true/\f.Perm ((fN (x.q c).D.1 (x.q c).D.2 (a,b) d (0,0)).aK.map (·.1))/\oB f/\e=ad (A 0)/\(fN (x.q c).D.1 (x.q c).D.2 (a,b) d (0,0)).aK≠[]/\MZ r N g F I w h x.eR M s c (.inr (.inr (.inr ((a,b),d,(0,0),f)))))
def ank (r N f:Nat) (F I:Nat->Prop) (M:Nat->List ay) (s:bx) (x:da) (c:Nat) (a b:Int) (w:World) (e:Ending) (d:World):Prop:=
 J w d/\((∃n,jU (c1 (s.ar c)) (a,b)=.error n/\e=ad (.tuple #[.slice none 0 0,A n]))\/(∃v l,jU (c1 (s.ar c)) (a,b)=.ok l/\l.length<=300/\e=ad (.tuple #[v,A 0])/\hR w.heap.size d v l))
theorem anl {I:Nat->Prop} (h:ei e b d I j k c i f) (r:a<j) (l n:Int) (p:ByteArray) (er:p.size<=maxLen):
  O 78 #[Z b,A a,.agg #[A l,A n],.string p] e λg w'=>anj b j k d I c i f a l n p e g w':=by
 have P:=aV e (af l n);have u9:=(h.xw r).hh (l,n) p (0,0);go_enter func78,ntmps78;go_wp2_with fail
 refine(Re (h.ak P) a r l n p er).mono ?_;rintro g v ⟨aA,e3⟩;have z:=bp P aA;rcases e3 with⟨m,hm,s,rfl⟩|⟨o,al,b3,oX,fq,rfl⟩
 .rcases hm with rfl|rfl|rfl
  all_goals go_wp2
  all_goals go_ret
  all_goals exact(show _\/_ from .inl ⟨_,.inl s,rfl,h.left (z.alloc z.size _)⟩)
 have w:=aN al (aN b3 oX);have F:=z.alloc z.size (.cells #[A l,A n,.string p,A 0,A 0] 97);have Q:=bZ v (.cells #[A l,A n,.string p,A 0,A 0] 97);go_wp2_with fail
 go_region_held3 (λW=>W.cell? (V v 0)=some (A l)/\W.cell? (V v 1)=some (A n)/\W.cell? (V v 2)=some (.string p)/\W.cell? (V v 3)=some (A 0)/\W.cell? (V v 4)=some (A 0)) (first |exact fh Q|exact fh R.o|exact fh S.o)
  (first
   |(go_at_call 48;refine((λW (t:J e W)=>Bx ((h.ak t).m.fi a r)) _ F.drew).mono ?_;rintro g w2 ⟨rfl,U⟩;have S:=ag (bB Q (Hq.o (nv U)));have X:=F.drew.trans (U.mono F.size))
   |(go_at_call 49;refine((λW (t:J e W)=>Vr ((h.ak t).m.fi a r).kB.q l n 0 0 p u9.1 u9.2) w2 X).mono ?_;rintro g w3 ⟨u,iO,rfl,s,B,hu,Y⟩;obtain⟨lW,lX,rfl,_,_,_⟩:=bz hu;rw[c2,s.length_eq];have R:=ag (bB S.o Y);have C:=bp X Y))
 obtain⟨z0,z1,z2,z3,z4⟩:=fh R.o;obtain⟨dq,x⟩:∃dq,dq=(fN (f.q a).D.1 (f.q a).D.2 (l,n) p (0,0)).aK.length:=⟨_,rfl⟩;rw[<-x];by_cases L:dq=0
 .subst L;go_wp2;go_ret
  exact(show _\/_ from .inl ⟨6,.inr (.inl ⟨rfl,⟨o,w⟩,D7 x.symm⟩),rfl,h.left C⟩)
 have yj:dq<=10000:=by rw[x];exact u9.1
 have h0':¬(dq:Int)=0:=by omega
 go_wp2_with fail
 refine((λW (t:J e W)=>ac5 ((h.ak t).m.fi a r) (h.xw r) (l,n) (0,0) p) w3 C).mono ?_;rintro g w4 (⟨y,rfl,ss,s,B,M⟩|⟨y,rfl,t⟩)
 .have E:=ag (aN y (aN s (aN B M)));go_wp2;go_ret
  obtain⟨y,s,B,M⟩:=E.o;exact(show _\/_ from .inr ⟨o,ss,w.1,w.2.1,w.2.2,s,B,rfl,λN=>L (by rw[x,N];rfl),h.Ri C r y (λ_=>rfl) M⟩)
 have E:=ag (aN y (bp C t));go_wp2;go_ret
 exact(show _\/_ from .inl ⟨8,.inr (.inr ⟨rfl,⟨⟨o,w⟩,λN=>L (by rw[x,N];rfl)⟩,Zb.2 E.o.1⟩),rfl,h.left E.o.2⟩)
theorem anm {I:Nat->Prop} (h:ei e b d I j k c i f) (q:a<j) (l n:Int):
  O 29 #[Z b,A a,.agg #[A l,A n]] e λg F=>ank b j k d I c i f a l n e g F:=by
 have x:=aV e (af l n);have L:=bZ e (af l n);have M:=Rb (h.ak x) a q l n true;have N:=λW (P:J e W)=>Bx ((h.ak P).m.fi a q)
 have Q:=ag (λo (p:bM (c1 (i.ar a)) (l,n)=some o) (r:o.aS=true)=>(h.m.fi a q).elements (h.lp q) p r (cd (h.ix q p r) (by omega)));have R:=ag (λo (p:bM (c1 (i.ar a)) (l,n)=some o) (r:o.aS=true)=>h.ix q p r);have aT:=ag h;go_enter func29,ntmps29;go_wp2_with fail
 refine M.mono ?_;rintro g w1 ⟨y,S⟩;have z:=bB L y;have s:=bp x y;rcases S with⟨m,U,X,rfl⟩|⟨o,p,t,rfl⟩
 .have v:=ag (Rc X);rcases U with rfl|rfl
  all_goals go_wp2
  all_goals go_ret2
  all_goals exact(show _/\_ from⟨s,.inl ⟨_,v.o,rfl⟩⟩)
 have v:=ag (tI p t);have Y:=Q.o o p t;have cr:=show(eJ o).length<=300 by
  have h1:=R.o o p t;have ax:(eJ o).length<=o.ss.length:=by unfold eJ;rw[c2];exact r7 _ _
  omega
 go_wp2_with fail
 go_region_held3 (λW=>W.cell? (V e 0)=some (A l)/\W.cell? (V e 1)=some (A n)) (first |exact bD z|exact bD eQ.o|exact bD B.o)
  (first
   |(go_at_call 48;refine(N _ s.drew).mono ?_;rintro g w2 ⟨rfl,C⟩;have B:=ag (bB z (Hq.o (nv C)));have w:=s.drew.trans (C.mono s.size))
   |(go_at_call 57;refine(Y w2 w).mono ?_;rintro g w3 ⟨u,rfl,hu,D⟩;have eQ:=ag (bB B.o D);have cj:=ag (bp w D);have E:=ag (show hR e.heap.size w3 u (eJ o) from ii hu w.size);obtain⟨lW,lX,rfl,_,_,_⟩:=bz E.o))
 all_goals go_wp2
 all_goals go_ret2
 all_goals exact(show _/\_ from⟨cj.o,.inr ⟨_,_,v.o,cr,rfl,E.o⟩⟩)
theorem adj{c b:Value}{t:TypeId}(h:e.heap[a]?=some (.cells #[c,b] t))(u v:Value)(o:Obj):(((e.setCell (H a) u).setCell (K a 1) v).alloc o).cell? (H a)=some u/\(((e.setCell (H a) u).setCell (K a 1) v).alloc o).cell? (K a 1)=some v:=
 bD (bB (ac3 h) (aV _ _))
def pj (M:Nat->List ay) (s:bx) (c:Nat) (a:mY) (t:TypeId) (v:Value):Nat->List ay:=sQ M c (lH c (s.gt c) (s.ai c) a t v)
def Stepped (r N d:Nat) (F I:Nat->Prop) (w w':World) (e:Nat->Nat) (M:Nat->List ay) (s:bx) (b a:Nat->Prop) (c:da):Prop:=ei w' r b a N d M s c/\c.eR=e/\dp F b w w'/\(∀k,I k->a k)/\∀k,a k->I k\/w.heap.size<=k
def Wq (r N k:Nat) (F I:Nat->Prop) (w l:World) (m:Nat->Nat) (M:Nat->List ay) (s:bx) (c:Nat) (a:mY) (e:PId) (f:ByteArray) (g:PId) (h:eP):Prop:=
 s.ai c c+2<=60/\∃t v b d i j,fO (c1 ((gq s c a t v).ar c)) b/\ha b/\d.Perm ((fN b.1 b.2 e f g).aK.map (·.1))/\oB d/\
  ri r N k F I w l m (pj (pj M s c a t v) (gq s c a t v) c (.inr (.inr (.inl (e,f,g,h,d)))) i j) (gq (gq s c a t v) c (.inr (.inr (.inl (e,f,g,h,d)))) i j)
def ann (r N f:Nat) (F I:Nat->Prop) (M:Nat->List ay) (s:bx) (x:da) (c:Nat) (a b:Int) (d:ByteArray) (g:Bool) (w:World) (e:Ending) (w':World):Prop:=
 (∃m,(nh (c1 (s.ar c)) (a,b) d=.error m\/(m=8/\(∃o,bM (c1 (s.ar c)) (a,b)=some o/\o.aS=false/\lP d=true)/\¬s.ai c c+2<=60))/\e=ad (.tuple #[.agg #[A 0,A 0],A m])/\ri r N f F I w w' x.eR M s)\/
 (∃o,bM (c1 (s.ar c)) (a,b)=some o/\o.aS=false/\lP d=true/\e=ad (.tuple #[.agg #[A (s.gt c+1),A c],A 0])/\Wq r N f F I w w' x.eR M s c (.inl g) (a,b) d (0,0) (0,(s.gt c+1,(c:Int))))
theorem ei.step{w r M s w' chg}(e:ei w r h d a b M s f){c:Nat}(g:c<a)(D:s.ai c c<60)(o:MV (M c) chg)(p:BP (f.jh c) d a b c (f.eR c) (s.gt c) (s.ai c) (s.kept c) (s.bt c) (f.q c) w w' chg):∃t v k i j,Stepped r a b h d w w' f.eR (pj M s c chg t v) (gq s c chg t v) k i j:=by obtain⟨t,v,k,i,E,u,x,y,l,n⟩:=p;obtain⟨j,z,B,C,_⟩:=e.m.Wf g u y l n x (ops':=s.ar c++[lH c (s.gt c) (s.ai c) chg t v]) (by rw[e.m.k9 c g,kr]);have F:=e.ok.own c g;exact⟨t,v,_,i,j,⟨z,e.ok.wrote g (by omega) chg t v,e.md.wrote o⟩,C,B,l,n⟩
theorem ei.set{sp}(l:ei e a d h b sp c i f){g:Nat}(u:Value)(p:¬d g)(q:¬h g):ei (e.setCell (K g j) u) a d h b sp c i f:=
 ⟨l.m.hA (by simp) (λk o=>dE (λn=>p (n▸o))) (λk o=>dE (λn=>q (n▸o))),l.ok,l.md⟩
theorem Wr{M p x D w Y s1 E F y z x1}{C:World}(l:ei e a d h b j M p x)(I:J e r)(ax:Stepped a b j d h r s w Y s1 E F x1)(L:J s C)(cP:Stepped a b j E F C D w c i y z f){g:Nat}(N:e.heap.size<=g)(Tu:g<r.heap.size)(n o:Value):
  ri a b j d h e ((D.setCell (H g) n).setCell (K g 1) o) w c i:=by
 obtain⟨ck,a2,B,a4,P⟩:=ax;obtain⟨bK,b8,Q,MW,R⟩:=cP;have aj:=B.size;have Q8:=L.size;have S:¬y g:=λhF=>by
  rcases Q.sub g hF with t|t
  .rcases B.sub g t with u|u
   .have :=l.m.lt g u;omega
   omega
  omega
 have U:¬z g:=λhF=>by
  rcases R g hF with t|t
  .rcases P g t with u|u
   .have :=l.m.cI g u;omega
   omega
  omega
 have W:=((B.before I).after L).trans Q;refine⟨y,z,f,(bK.set n S U).set o S U,b8,(W.ym N n).ym N o,λk v=>⟨MW k (a4 k v),?_⟩,λk v=> ?_⟩
 .have X:k≠g:=λq=>by have :=l.m.cI k v;omega
  rw[dE X,dE X];exact W.other k (l.m.cI k v) (l.m.e0 k v)
 rcases R k v with t|t
 .exact(P k t).imp id λu=>cd I.size u
 omega
theorem ano (l:ei e b d h j k c i f) (x:a<j) (u w:Int) (y:ByteArray) (er:y.size<=maxLen) (z:Bool):
  O 38 #[Z b,A a,.agg #[A u,A w],.string y,.bool z] e λn w'=>ann b j k d h c i f a u w y z e n w':=by
 have bf:=(aV e (af u w)).alloc (by simp) (af 0 0);have uH:=show((e.alloc (af u w)).alloc (af 0 0)).heap[e.heap.size+1]?=some (af 0 0) from(by
  have :=bZ (e.alloc (af u w)) (af 0 0)
  simp_all)
 have dS:=Re (l.ak bf) a x u w y er;have U:=show ∀p,e.heap.size<=p->¬d p from λp hk hF=>by have :=l.m.lt p hF;omega
 have bR:=λW (E:J e W)=>Mu ((l.ak E).m.fi a x) 2 (by omega)
 have qz:=λW (E:J e W)=>ac1 ((l.ak E).m.fi a x) (l.xw x) z
 have pB:=λW (E:J e W) (w':World) (B:i.ai a a<60) hw=>(l.ak E).step (w':=w') x B (chg:=.inl z) trivial hw
 have X:=l;go_enter func38,ntmps38;go_wp2_with fail
 refine dS.mono ?_;rintro n F ⟨C,e3⟩;have I:=bB uH C;have Y:=bp bf C;have hz1:=Y.size;have yg:=aU I;rcases e3 with⟨m,hm,au,rfl⟩|⟨o,al,b3,oX,fq,rfl⟩
 .have dv:=au;obtain⟨y0,y1⟩:=bD I;have pt:=cV I;have Ws:=World.new_ne F (H (e.heap.size+1)) y0;obtain⟨z0,z1⟩:=adj I (A 0) (A 0) (.cells #[A 0,A 0,.string ⟨#[]⟩,A 0,A 0] 97);have anp:∀q r,ri b j k d h e (((F.setCell (H (e.heap.size+1)) q).setCell (K (e.heap.size+1) 1) r).alloc (.cells #[A 0,A 0,.string ⟨#[]⟩,A 0,A 0] 97)) f.eR c i:=λq r=>X.left (((Y.setCell (show e.heap.size<=e.heap.size+1 by omega) _).setCell (show e.heap.size<=e.heap.size+1 by omega) _).alloc (by simp[World.setCell];omega) _)
  have uJ:=anp;rcases hm with rfl|rfl|rfl
  .go_wp2;refine ey (v:=.tuple #[.agg #[A 0,A 0],A 3]) (by simp[results,results38,go_sem,z0,z1]) rfl ?_;exact(show _\/_ from .inl ⟨3,.inl dv,rfl,uJ _ _⟩)
  .go_wp2;refine ey (v:=.tuple #[.agg #[A 0,A 0],A 4]) (by simp[results,results38,go_sem,z0,z1]) rfl ?_;exact(show _\/_ from .inl ⟨4,.inl dv,rfl,uJ _ _⟩)
  go_wp2;refine ey (v:=.tuple #[.agg #[A 0,A 0],A 5]) (by simp[results,results38,go_sem,z0,z1]) rfl ?_;exact(show _\/_ from .inl ⟨5,.inl dv,rfl,uJ _ _⟩)
 have Q:=aN al (aN b3 oX);have eO:=Y.alloc hz1 (.cells #[A u,A w,.string y,A 0,A 0] 97);have cg:=bZ F (.cells #[A u,A w,.string y,A 0,A 0] 97);go_wp2_with fail
 refine(bR _ eO).mono ?_;rintro n w2 ⟨rfl,L⟩;have c7:=bB cg L;have M:=bB (bB I (aV F _)) L;have R:=bp eO L;have ns:=aU M;obtain⟨y0,y1⟩:=bD M;have pt:=cV M;by_cases B:i.ai a a+2<=60
 .have ao:decide (i.ai a a+((2:Nat):Int)<=60)=true:=nJ B;rw[ao];have N:=ag B;go_wp2_with fail
  refine(qz w2 R).mono ?_;rintro n D ⟨rfl,hI⟩;obtain⟨t,v,jZ,mF,jG,ax⟩:=pB w2 R D (by have :=N.o;omega) hI;have s:=ax;have eQ:=(s.2.2.1.other _ (aU c7) (U _ hz1)).trans c7;have r1:=(s.2.2.1.other _ (aU M) (U _ (by omega))).trans M;obtain⟨fj,gv,mR,pw,uc⟩:=fh eQ;have zW:=aU eQ;have rj:=aU r1;have ov:=World.new_ne D (V F 0) fj;have P:=aV D (af (i.gt a+1) a);have Fu:=ag (Q6 ((s.1.ak P).m.fi a x) (s.1.xw x) (u,w) (0,0) y (0,(i.gt a+1,(a:Int))));rw[s.2.1]at Fu;go_wp2_with fail
  refine Fu.o.mono ?_;rintro n w4 ⟨⟨jH,rfl⟩,ss,au,aE,h7⟩;rw[<-s.2.1]at h7;have Ht:(gq i a (.inl z) t v).ai a a<60:=by show upd i.ai a (upd (i.ai a) a (i.ai a a+1)) a a<60;rw[bL,bL];have :=N.o;omega
  obtain⟨nM,v',kA,pO,Rj,S⟩:=(s.1.ak P).step x Ht (chg:=.inr (.inr (.inl ((u,w),y,(0,0),(0,(i.gt a+1,(a:Int))),ss)))) ⟨λ_=>rfl,.inr ⟨lH a (i.gt a) (i.ai a) (.inl z) t v,by rw[pj,pR];simp,rfl,z,rfl⟩⟩ h7;have wD:=s.1.doc x;have mu:=aN au aE;rw[s.2.1]at S;have gY:=λq r=>Wr X R s P S (g:=e.heap.size+1) (by omega) ns q r
  have HY:¬jZ (e.heap.size+1):=λhF=>by
   rcases s.2.2.1.sub _ hF with l|l
   .exact U _ (by omega) l
   omega
  have Wt:¬jZ D.heap.size:=λhF=>by have :=s.1.m.lt _ hF;omega
  have C:=(S.2.2.1.other _ (aU (bB r1 P)) HY).trans (bB r1 P);have L:=(S.2.2.1.other _ (aU (bZ D _)) Wt).trans (bZ D _);obtain⟨fT,fm⟩:=bD C;obtain⟨gX,q1⟩:=bD L;have mf:=cV C;have JJ:=aU C;go_wp2;refine ey (v:=.tuple #[.agg #[A (i.gt a+1),A a],A 0]) (by simp[results,results38,go_sem,fT,fm]) rfl ?_;exact(show _\/_ from .inr ⟨o,Q.1,Q.2.1,Q.2.2,rfl,N.o,t,v,_,ss,nM,v',wD.1,wD.2.1,mu.1,mu.2,gY _ _⟩)
 have ao:decide (i.ai a a+((2:Nat):Int)<=60)=false:=p2 B;rw[ao];have N:=ag B;go_wp2;refine ey (v:=.tuple #[.agg #[A 0,A 0],A 8]) (by simp[results,results38,go_sem,y0,y1]) rfl ?_;exact(show _\/_ from .inl ⟨8,.inr ⟨rfl,⟨o,Q⟩,Int.not_le.2 N.o⟩,rfl,X.left ((R.setCell (show e.heap.size<=e.heap.size+1 by omega) _).setCell (show e.heap.size<=e.heap.size+1 by omega) _)⟩)
def anq (r N f:Nat) (F I:Nat->Prop) (M:Nat->List ay) (s:bx) (x:da) (c:Nat) (a d i n:Int) (w:World) (e:Ending) (g:World):Prop:=
 (∃m,(jU (c1 (s.ar c)) (a,d)=.error m\/(m=7/\∃o,bM (c1 (s.ar c)) (a,d)=some o/\o.aS=true/\lC (eJ o) i=none)\/(m=8/\(∃o b,bM (c1 (s.ar c)) (a,d)=some o/\o.aS=true/\lC (eJ o) i=some b)/\¬s.ai c c+2<=60))/\e=ad (.tuple #[.agg #[A 0,A 0],A m])/\ri r N f F I w g x.eR M s)\/
 (∃o b,bM (c1 (s.ar c)) (a,d)=some o/\o.aS=true/\lC (eJ o) i=some b/\e=ad (.tuple #[.agg #[A (s.gt c+1),A c],A 0])/\Wq r N f F I w g x.eR M s c (.inr (.inl ((a,d),b))) (a,d) ⟨#[]⟩ (s.gt c+1,(c:Int)) (n,(0,0)))
theorem anr {M:Nat->List ay} (l:ei e a d h j k M i f) {c:Nat} (y:c<j) (u w q n:Int):
  O 32 #[Z a,A c,.agg #[A u,A w],A q,A n] e λp w'=>anq a j k d h M i f c u w q n e p w':=by
 have bf:=(aV e (af u w)).alloc (by simp) (af 0 0);have dg:=show((e.alloc (af u w)).alloc (af 0 0)).heap[e.heap.size]?=some (af u w) from(is _ _ (by simp)).trans (bZ e _)
 have uH:=show((e.alloc (af u w)).alloc (af 0 0)).heap[e.heap.size+1]?=some (af 0 0) from(by
  have :=bZ (e.alloc (af u w)) (af 0 0)
  simp_all)
 have dS:=adh (l.ak bf) c y u w q;have lK:=show ∀r,e.heap.size<=r->¬d r from λr hk hF=>by have :=l.m.lt r hF;omega
 have bR:=λW (z:J e W)=>Mu ((l.ak z).m.fi c y) 2 (by omega)
 have qz:=λW (z:J e W) o (N:bM (c1 (i.ar c)) (u,w)=some o) (P:o.aS=true) b (Q:lC (eJ o) q=some b)=>ac6 ((l.ak z).m.fi c y) (l.xw y) (l.lp y) N P (l.ix y N P) q Q
 have pB:=λW (z:J e W) (w':World) (D:i.ai c c<60) b hw=>(l.ak z).step (w':=w') y D (chg:=.inr (.inl ((u,w),b))) trivial hw
 have aT:=l;go_enter func32,ntmps32;go_wp2_with fail
 refine dS.mono ?_;rintro p w1 ⟨B,e3⟩;have cg:=bB dg B;have E:=bB uH B;have F:=bp bf B;have hz1:=F.size;have yg:=aU E;have zr:=show ∀W,J e W->∀s b,ri a j k d h e ((W.setCell (H (e.heap.size+1)) s).setCell (K (e.heap.size+1) 1) b) f.eR M i from λW z s b=>aT.left ((z.setCell (show e.heap.size<=e.heap.size+1 by omega) _).setCell (show e.heap.size<=e.heap.size+1 by omega) _)
 rcases e3 with⟨m,hm,au,rfl⟩|⟨o,N,P,eZ,⟨Q,rfl⟩|⟨b,Q,rfl⟩⟩
 .have dv:=ag au;obtain⟨I,L⟩:=bD E;have pt:=cV E;rcases hm with rfl|rfl
  .go_wp2;refine ey (v:=.tuple #[.agg #[A 0,A 0],A 3]) (by simp[results,results32,go_sem,I,L]) rfl ?_;exact(show _\/_ from .inl ⟨3,.inl dv.o,rfl,zr _ F _ _⟩)
  go_wp2;refine ey (v:=.tuple #[.agg #[A 0,A 0],A 4]) (by simp[results,results32,go_sem,I,L]) rfl ?_;exact(show _\/_ from .inl ⟨4,.inl dv.o,rfl,zr _ F _ _⟩)
 .have dv:=ag (aN N (aN P Q));obtain⟨I,L⟩:=bD E;have pt:=cV E;go_wp2;refine ey (v:=.tuple #[.agg #[A 0,A 0],A 7]) (by simp[results,results32,go_sem,I,L]) rfl ?_;exact(show _\/_ from .inl ⟨7,.inr (.inl ⟨rfl,o,dv.o⟩),rfl,zr _ F _ _⟩)
 have C:=aN N (aN P Q);go_wp2_with fail
 refine(bR _ F).mono ?_;rintro p w2 ⟨rfl,R⟩;have c7:=bB cg R;have S:=bB E R;have bF:=bp F R;have ns:=aU S;obtain⟨I,L⟩:=bD S;have pt:=cV S;by_cases D:i.ai c c+2<=60
 .have ao:decide (i.ai c c+((2:Nat):Int)<=60)=true:=nJ D;rw[ao];have U:=ag D;obtain⟨Rf,Rg⟩:=bD c7;go_wp2_with fail
  refine(qz w2 bF o C.1 C.2.1 b C.2.2).mono ?_;rintro p X ⟨rfl,hI⟩;obtain⟨t,v,jZ,mF,jG,ax⟩:=pB w2 bF X (by have :=U.o;omega) b hI;have x:=ax;have eQ:=(x.2.2.1.other _ (aU c7) (lK _ (bW _))).trans c7;have r1:=(x.2.2.1.other _ (aU S) (lK _ (by omega))).trans S;obtain⟨fj,gv⟩:=bD eQ;have zW:=aU eQ;have rj:=aU r1;have ov:=World.new_ne X (V e 0) fj;have rN:=aV X (af (i.gt c+1) c);go_wp2_with fail
  refine(Ra _ _ _ _ _).mono ?_;rintro p w4 ⟨rfl,hY⟩;have qA:=bB (bZ X (af (i.gt c+1) c)) hY;have Y:=bp rN hY;have Fu:=ag (Q6 ((x.1.ak Y).m.fi c y) (x.1.xw y) (u,w) (i.gt c+1,(c:Int)) ⟨#[]⟩ (n,(0,0)));rw[x.2.1]at Fu;have hr:=ag (bB eQ Y);have oZ:=bB r1 Y;obtain⟨cR,av⟩:=bD qA;have he4:=aU qA;go_wp2_with fail
  refine Fu.o.mono ?_;rintro p w5 ⟨⟨jH,rfl⟩,ss,au,aE,ow⟩;rw[<-x.2.1]at ow;have Ht:(gq i c (.inr (.inl ((u,w),b))) t v).ai c c<60:=by show upd i.ai c (upd (i.ai c) c (i.ai c c+1)) c c<60;rw[bL,bL];have :=U.o;omega
  obtain⟨nM,v',kA,pO,Rj,cP⟩:=(x.1.ak Y).step y Ht (chg:=.inr (.inr (.inl ((u,w),⟨#[]⟩,(i.gt c+1,(c:Int)),(n,(0,0)),ss)))) ⟨λbI=>absurd rfl bI,.inl rfl⟩ ow;have wD:=x.1.doc y;have mu:=aN au aE;rw[x.2.1]at cP;have gY:=λs b=>Wr aT bF x Y cP (g:=e.heap.size+1) (by omega) ns s b
  have HY:¬jZ (e.heap.size+1):=λhF=>by
   rcases x.2.2.1.sub _ hF with l|l
   .exact lK _ (by omega) l
   omega
  have Wt:¬jZ X.heap.size:=λhF=>by have :=x.1.m.lt _ hF;omega
  have B:=(cP.2.2.1.other _ (aU oZ) HY).trans oZ;have R:=(cP.2.2.1.other _ (aU qA) Wt).trans qA;obtain⟨fT,fm⟩:=bD B;obtain⟨gX,q1⟩:=bD R;have mf:=cV B;have JJ:=aU B;have zX:=aU oZ;go_wp2;refine ey (v:=.tuple #[.agg #[A (i.gt c+1),A c],A 0]) (by simp[results,results32,go_sem,fT,fm]) rfl ?_;exact(show _\/_ from .inr ⟨o,b,C.1,C.2.1,C.2.2,rfl,U.o,t,v,_,ss,nM,v',wD.1,wD.2.1,mu.1,mu.2,gY _ _⟩)
 have ao:decide (i.ai c c+((2:Nat):Int)<=60)=false:=p2 D;rw[ao];have U:=ag D;go_wp2;refine ey (v:=.tuple #[.agg #[A 0,A 0],A 8]) (by simp[results,results32,go_sem,I,L]) rfl ?_;exact(show _\/_ from .inl ⟨8,.inr (.inr ⟨rfl,⟨o,b,C⟩,Int.not_le.2 U.o⟩),rfl,zr _ bF _ _⟩)
end
