/- Our own text. -/
import Derived.Test.YtnkpogjiiohapaaGreatDoorA26
set_option linter.unusedSimpArgs false
set_option linter.unusedVariables false
set_option maxRecDepth 1000000
set_option maxHeartbeats 1000000
namespace Go.Proofs.YtnkpogjiiohapaaGreatDoor
section
variable {a d e:Nat}{b k:bx}{c:Nat->List ay}{f:bP}{h j:List ay}{i:ay}
def qE (i:Nat) (o:ay):Bool:=o.op.id.2==(i:Int)
def iU (l:List ay):List (Nat×Nat):=l.map λo=>(o.op.id.2.toNat,o.op.cb.toNat)
def kF (l:List ay) (i:Nat):Nat:=(l.filter (qE i)).length
theorem NP{i:Nat}:∀{l:List ay},(∀o∈l,0<=o.op.id.2)->iT (iU l) i=kF l i
 |[],_=>rfl
 |o::l,h=>by
  have ih:=NP (i:=i) (l:=l) λp a=>h p (by simp[a])
  have b:=h o (by simp);unfold iT iU kF at *;simp only[ip,F6];have e:(o.op.id.2.toNat==i)=qE i o:=by unfold qE;rw[agn,OH,OH];omega
  simp only[e];split
  .simp[ih]
  omega
theorem afa{N M}(a:j5 N M){b:Nat->Int}{i:Nat}:∀n,n<=N->(qx M b n).filter (qE i)=if i<n then(M i).take (b i).toNat else[]
 |0,_=>by rfl
 |n+1,h=>by
  rw[Dr,r6,afa a n (by omega)];by_cases e:i=n
  .subst e;rw[a7 (by omega),bn (by omega),sZ,af1];intro o d;obtain⟨_,_,_,f,_⟩:=a.at (c:=i) (by omega) (mo d);simp[qE,f]
  have :((M n).take (b n).toNat).filter (qE i)=[]:=by rw[atV];intro o d;obtain⟨_,_,_,f,_⟩:=a.at (c:=n) (by omega) (mo d);simp[qE,f];omega
  rw[this,oM];by_cases g:i<n
  .rw[bn g,bn (by omega)]
  rw[a7 g,a7 (by omega)]
theorem ara(f:j5 d c)(g:a<d):q6 (c a):=(f.j1 a g).imp λ{e b} h=>(rU _ _).2 (.inl h)
theorem ed.Sn(ok:ed e c b)(f:a<e)(g:d<e):(b.ar a).filter (qE d)=(c d).take (b.ai a d).toNat:=by have h:=(ok.copy a f).perm.filter (qE d);rw[afa ok.bJ e (bW _),bn g]at h;exact acM ((ok.j1 a f).sublist (atU ..)) ((ara ok.bJ g).sublist (Y7 ..)) h
theorem ed.afb(ok:ed d c b)(f:e<d)(g:a<d):(b.ai e a).toNat<=(c a).length:=by have :=(ok.copy e f).l3 a g;omega
theorem ed.stands(ok:ed e c b)(m:d<e)(n:b.ar d=h++i::j)(k:a<e)(o:qE a i=true):kF h a<(b.ai d a).toNat/\(c a)[kF h a]?=some i/\i.op.cb=(kF h a:Int)+1:=by
 have l:=ok.Sn m k;rw[n,r6,F6,bn o]at l;have g:((c a).take (b.ai d a).toNat)[kF h a]?=some i:=by rw[<-l];unfold kF;simp
 rw[wq]at g;split at g
 .rename_i p
  refine⟨p,g,?_⟩;obtain⟨q,f⟩:=Au.1 g;have :=(ok.bJ.id a k _ q).2.1
  simp_all
 cases g
theorem ed.arb(ok:ed e c b)(i:d<e)(n:b.ar d=h++j)(k:a<e)(f:kF h a<(b.ai d a).toNat):∃o,(c a)[kF h a]?=some o/\o∈j:=by
 have l:=ok.Sn i k;rw[n,r6]at l;have p:=ok.afb i k;have g:((c a).take (b.ai d a).toNat)[kF h a]?=(c a)[kF h a]?:=by simp_all
 obtain⟨o,m⟩:∃o,(c a)[kF h a]?=some o:=⟨_,uX (by omega)⟩;refine⟨o,m,?_⟩;rw[m,<-l]at g;unfold kF at g;rw[KV (bW _)]at g;have :=IE g
 simp_all
theorem ed.afc{N}(ok:ed N c b)(d:a<N){i:Nat}(e:i<N):kF (b.ar a) i=(b.ai a i).toNat:=by unfold kF;rw[ok.Sn d e,gU];have :=ok.afb d e;omega
theorem ed.NQ(ok:ed a c b)(h:d<a)(j:i∈b.ar d):∃f,f<a/\i.op.id.2=(f:Int)/\1<=i.op.cb:=by obtain⟨e,g,k⟩:=(ok.copy d h).bJ j;obtain⟨f,m,_,l,n,_⟩:=ok.bJ.at g k;exact⟨e,g,l,by omega⟩
theorem arc(a b:PId):qM a b=gj a b:=by rw[agn,rU];simp[qM]
theorem Rel.ard(h:Rel d c b f)(ok:ed d c b)(n:a<d):B9 d f.P (f.ai a) (iU (b.ar a)):=by
 have u:∀o∈b.ar a,0<=o.op.id.2:=λo m=>by obtain⟨i,_,e,_⟩:=ok.NQ n m;omega
 have q:∀i,i<d->(b.ai a i).toNat=f.ai a i:=λi p=>by rw[h.ai a n i p];omega
 have v:∀(j:Nat->Nat) g,g<d->∀o,(c g)[j g]?=some o->sX f.P j g=o.op.id:=λj g l o m=>by unfold sX;rw[<-h.bJ g l,Av,m];simp[rf]
 refine⟨λk z=> ?_,λg l=> ?_⟩
 .have B:k<(b.ar a).length:=by simpa[iU]using z
  have r:b.ar a=(b.ar a).take k++(b.ar a)[k]::(b.ar a).drop (k+1):=by simp
  have C:(iU (b.ar a)).take k=iU ((b.ar a).take k):=by unfold iU;simp
  have D:∀i,iT ((iU (b.ar a)).take k) i=kF ((b.ar a).take k) i:=λi=>by rw[C];exact NP λo m=>u o (mo m)
  obtain⟨i,p,s,M⟩:=ok.NQ n (dB B);have E:qE i (b.ar a)[k]=true:=by simp[qE,s]
  obtain⟨F,I,N⟩:=ok.stands n r p E;have eq:(iU (b.ar a))[k]=(i,(b.ar a)[k].op.cb.toNat):=by simp[iU,s]
  simp only[eq,funext D];refine⟨p,by omega,by rw[<-q i p];exact F,λg l Q w=> ?_⟩;rw[<-q g l]at w;obtain⟨o,m,t⟩:=ok.arb n r l w;rw[v _ i p _ I,v _ g l _ m,arc];have x:=ok.j1 a n;rw[r]at x;have y:=(xQ.1 x).2.1;rw[s9]at y;rcases ft.1 t with rfl|t
  .exfalso;obtain⟨L,e⟩:=Au.1 m;have :=(ok.bJ.id g l _ L).1;rw[e,s]at this;omega
  exact y.1 o t
 rw[NP u,ok.afc n l,q g l]
def tR (N:Nat) (s:bx) (S:bP):Prop:=(∀c i,c<N->i<N->S.df c i=kF (s.dR c) i)/\∀c d i,c<N->d<N->d≠c->i<N->S.df c i<=S.bC c d i
theorem tR.more{N}{a:bP}(h:tR N b f)(l:k.dR=b.dR)(j:a.df=f.df)(m:∀c d i,f.bC c d i<=a.bC c d i):tR N k a:=
 ⟨λc i e g=>by rw[j,l];exact h.1 c i e g,λc d i e n o g=>by rw[j];exact cd (h.2 c d i e n o g) (m c d i)⟩
theorem tR.same{s':bx}{S':bP}(h:tR a b f)(e:s'.dR=b.dR)(g:S'.df=f.df)(j:S'.bC=f.bC):tR a s' S':=h.more e g λc d i=>by simp_all
theorem ed.Yb(ok:ed e c b)(o:tR e b f)(h:a<e)(j:d<e)(p:i.op.id.2=(d:Int)):(i∈b.dR a->i.op.cb<=f.df a d)/\∀l m,b.kept a=l++i::m->i.op.cb=(f.df a d:Int)+kF l d+1:=by
 have k:qE d i=true:=by simp[qE,p]
 have r:=ok.k9 a h;rw[o.1 a d h j];refine⟨λq=> ?_,λl m g=> ?_⟩
 .obtain⟨l,m,g⟩:=List.append_of_mem q;have n:b.ar a=l++i::(m++b.kept a):=by simp_all
  have :=(ok.stands h n j k).2.2;rw[this,g];unfold kF;rw[r6,F6,bn k,dh,iq];omega
 have n:b.ar a=(b.dR a++l)++i::m:=by simp_all
 have :=(ok.stands h n j k).2.2;rw[this];unfold kF;simp
theorem ed.arf(ok:ed d c b)(m:e<d)(n:b.ar e=h++j)(k:a<d)(p:0<kF h a):∃o∈h,o.op.id.2=(a:Int)/\o.op.cb=(kF h a:Int):=by
 have l:=ok.Sn m k;rw[n,r6]at l;unfold kF at p⊢;have i:(h.filter (qE a)).length-1<(h.filter (qE a)).length:=by omega
 obtain⟨q,r⟩:=p4.1 (dB i);have g:((c a).take (b.ai e a).toNat)[(h.filter (qE a)).length-1]?=some (h.filter (qE a))[(h.filter (qE a)).length-1]:=by rw[<-l,KU i,uX i]
 rw[wq]at g;split at g
 .obtain⟨s,f⟩:=Au.1 g;have :=(ok.bJ.id a k _ s).2.1;rw[f]at this;refine⟨_,q,by simpa[qE]using r,?_⟩;omega
 cases g
theorem Sp {α:Type} {p:α->Bool}:∀{l:List α} {j:Nat},j<=l.length->(∀x∈l.take j,p x=true)->(∀a:j<l.length,p l[j]=false)->(l.takeWhile p).length=j
 |[],j,h,_,_=>by simp_all
 |x::l,0,_,_,b=>by simp_all
 |x::l,j+1,h,c,b=>by rw[Zc,bn (c x (by simp)),iq,Sp (by simp_all) (λy d=>c y (by simp[d])) λa=>b (Nat.succ_lt_succ a)]
theorem nD.dR{c:Nat}:∀(a:List bT) {M d:Nat->List ay} {s b:bx},nD c a M s d b->b.dR=s.dR
 |[],_,_,_,_,h=>by rw[h.2]
 |p::a,_,_,_,_,h=>by obtain⟨f,t,v,_,e⟩:=h;exact(nD.dR a e).trans rfl
theorem tR.Du(h:tR d b f)(j:vQ d b e a k):tR d k (pk d f e a):=by
 have o:k.dR=b.dR:=by
  unfold vQ at j;split at j
  .rw[j]
  .obtain⟨_,_,_,rfl⟩:=j;rfl
  obtain⟨_,_,rfl⟩:=j;rfl
 have l:(pk d f e a).df=f.df/\∀c g i,f.bC c g i<=(pk d f e a).bC c g i:=by
  unfold pk;split
  .simp
  split
  .refine⟨rfl,λc g i=> ?_⟩;show _<=upd f.bC a (upd (f.bC a) e _) c g i;by_cases m:c=a
   .subst m;rw[bL];by_cases n:g=e
    .subst n;rw[bL];exact Nat.le_max_left _ _
    rw[ch _ _ n];simp
   rw[ch _ _ m];simp
  exact⟨rfl,λ_ _ _=>bW _⟩
 exact h.more o l.1 l.2
theorem Rel.kept{N M s S}(h:Rel N M s S)(ok:ed N M s)(j:tR N s S){c:Nat}(a:c<N):yV (S.ai c) (S.df c) N=((s.kept c).length:Int):=by
 have k:∀n,n<=N->yV (S.ai c) (S.df c) n=(((List.range n).map (kF (s.kept c))).sum:Nat):=by
  intro n
  induction n with
  |zero=>intro _;rfl
  |succ n ih=>intro r;unfold yV;rw[ih (by omega),mM,ga,OL];have b:=ok.afc a (i:=n) (by omega);rw[ok.k9 c a]at b;have t:=h.ai c a n (by omega);have m:=j.1 c n a (by omega);unfold kF at b m⊢;rw[r6,dh]at b;simp only[ip,uV,K9,agm,r9];omega
 rw[k N (bW _)];have g:=Sh (N:=N) (l:=iU (s.kept c)) λf p=>by obtain⟨o,d,rfl⟩:=dF.1 p;obtain⟨i,u,e,_⟩:=ok.NQ a ((ok.Dt a).subset d);omega
 have q:∀o∈s.kept c,0<=o.op.id.2:=λo d=>by obtain⟨i,_,e,_⟩:=ok.NQ a ((ok.Dt a).subset d);omega
 rw[show iT (iU (s.kept c))=kF (s.kept c) from funext λi=>NP q]at g;rw[g];simp[iU]
theorem Rel.trim{N M s S B}(h:Rel N M s S)(ok:ed N M s)(y:tR N s S){c:Nat}(q:c<N)(aj:Rz N s c B){k:Nat}(hk:k<=(iU (s.ar c)).length)(I:∀f∈(iU (s.ar c)).take k,(List.range N).all (mJ S c f.1 f.2)=true)(h2:∀hk:k<(iU (s.ar c)).length,(List.range N).all (mJ S c (iU (s.ar c))[k].1 (iU (s.ar c))[k].2)=false):
  DS (S.df c) ((iU (s.ar c)).take k)=kE B (s.kept c)/\Rel N M (BV s c (kE B (s.kept c))) (p0 S c ((iU (s.ar c)).take k))/\tR N (BV s c (kE B (s.kept c))) (p0 S c ((iU (s.ar c)).take k)):=by
 have sn:(iU (s.ar c)).take k=iU ((s.ar c).take k):=by unfold iU;simp
 have P:k<=(s.ar c).length:=by simpa[iU]using hk
 rw[sn]at I⊢;have C:∀o∈s.ar c,∃i,i<N/\o.op.id.2=(i:Int)/\1<=o.op.cb:=λo g=>ok.NQ q g
 have E:∀o∈s.kept c,o∈s.ar c:=λo g=>(ok.Dt q).subset g
 have ok':=ok.trim q aj;rcases aj with⟨⟨d,p,t,aL⟩,b1⟩|⟨Q,jr⟩
 .have Q:∀i n,(List.range N).all (mJ S c i n)=false:=λi n=>by
   rw[Bool.eq_false_iff];intro u;rw[S4]at u;have r:=u d (rA.2 p);rw[h.ai c q d p,h.ic c d q p (eE t) d p]at aL;have a8:S.ai c d<S.bC c d d:=by omega
   simp[mJ,t,a8]at r
  have jY:k=0:=by
   cases e:s.ar c with
   |nil=>rw[e]at P;simpa using P
   |cons o l=>
    by_cases h0:k=0
    .exact h0
    have :=I (o.op.id.2.toNat,o.op.cb.toNat) (by rw[e];obtain⟨Kg,rfl⟩:∃Kg,k=Kg+1:=⟨k-1,by omega⟩;simp[iU])
    rw[Q]at this;cases this
  have sA:kE B (s.kept c)=0:=by
   unfold kE;refine Sp (b6 _) (λx az=>by simp at az) λR=> ?_
   obtain⟨i,b,e,hn⟩:=C _ (E _ (dB R));unfold isSet;rw[e,xP,b1 i b];simp;omega
  have NR:BV s c 0=s:=by unfold BV;rw[Ga,oM,List.drop_zero,tG,tG]
  rw[jY,sA,NR,Ga,show iU []=[] from rfl,ae3];exact⟨rfl,h,y⟩
 have U:∀i n,i<N->((List.range N).all (mJ S c i n)=true↔∀d,d<N->d≠c->n<=S.bC c d i):=λi n b=>by
  rw[S4];refine⟨λu d p t=> ?_,λu d p=> ?_⟩
  .have r:=u d (rA.2 p);simp only[mJ,af7,OH,Za,atW,K2]at r;rcases r with r|r
   .exact absurd r t
   omega
  have p:=rA.1 p;simp only[mJ,af7,OH,Za,atW,K2];by_cases e:d=c
  .exact .inl e
  have r:=Q d p e;rw[h.ai c q d p,h.ic c d q p (eE e) d p]at r;exact .inr ⟨by have :=u d p e;omega,by omega⟩
 have Gk:∀o∈s.dR c,(List.range N).all (mJ S c o.op.id.2.toNat o.op.cb.toNat)=true:=λo g=>by obtain⟨i,b,e,hn⟩:=C o (by rw[ok.k9 c q];exact p3 _ g);rw[e,xP,U i _ b];intro d p t;have r:=(ok.Yb y q b e).1 g;have a8:=y.2 c d i q p t b;omega
 have afd:∀o∈s.kept c,(List.range N).all (mJ S c o.op.id.2.toNat o.op.cb.toNat)=isSet B o:=λo g=>by
  obtain⟨i,b,e,hn⟩:=C o (E o g);have eb:=((ok.copy c q).mem ok.bJ ((ok.copy c q).bJ (E o g))).1 (E o g);rw[e,xP]at eb;obtain⟨s1,s2,L⟩:=jr i b;rw[agn];unfold isSet;rw[e,xP,U i _ b,Eb];refine⟨λu=> ?_,λu d p t=> ?_⟩
  .rcases L with L|⟨d,p,t,L⟩
   .omega
   rw[h.ic c d q p (eE t) i b]at L;have :=u d p t;omega
  have :=s2 d p t;rw[h.ic c d q p (eE t) i b]at this;omega
 have v:=ok.k9 c q;have dH:(s.dR c).length<=k:=by
  by_cases e:k<(s.dR c).length
  .exfalso;have W:k<(iU (s.ar c)).length:=by rw[v];simp[iU];omega
   have r:=h2 W;have z:(iU (s.ar c))[k]=((s.dR c)[k].op.id.2.toNat,(s.dR c)[k].op.cb.toNat):=by simp only[iU,pn,v,Cf e]
   rw[z,Gk _ (dB e)]at r;cases r
  omega
 obtain⟨j,rfl⟩:∃j,k=(s.dR c).length+j:=⟨k-(s.dR c).length,by omega⟩;have X:(s.ar c).take ((s.dR c).length+j)=s.dR c++(s.kept c).take j:=by rw[v,atT]
 have iV:j<=(s.kept c).length:=by rw[v,dh]at P;omega
 have arh:kE B (s.kept c)=j:=by
  unfold kE;refine Sp iV (λo g=> ?_) λR=> ?_
  .rw[<-afd o (mo g)];exact I _ (dF.2 ⟨o,by rw[X];exact Gc _ g,rfl⟩)
  rw[<-afd _ (dB R)];have W:(s.dR c).length+j<(iU (s.ar c)).length:=by rw[v];simp[iU];omega
  have r:=h2 W;have z:(iU (s.ar c))[(s.dR c).length+j]=((s.kept c)[j].op.id.2.toNat,(s.kept c)[j].op.cb.toNat):=by simp only[iU,pn,v];rw[atO (by omega)];simp
  rw[z]at r;exact r
 rw[arh]at ok'⊢;rw[X];have nz:∀o∈s.dR c++(s.kept c).take j,o∈s.ar c:=λo g=>by
  rw[v];rcases dZ.1 g with g|g
  .exact p3 _ g
  exact Gc _ (mo g)
 have nS:∀i,iT (iU (s.dR c++(s.kept c).take j)) i=kF (s.dR c++(s.kept c).take j) i:=λi=>NP λo g=>by obtain⟨i,_,e,_⟩:=C o (nz o g);omega
 have ari:∀i,i<N->max (S.df c i) (iT (iU (s.dR c++(s.kept c).take j)) i)=kF (s.dR c++(s.kept c).take j) i:=λi b=>by rw[nS,y.1 c i q b];unfold kF;rw[r6,dh];omega
 have gx:s.ar c=(s.dR c++(s.kept c).take j)++(s.kept c).drop j:=by rw[kr,za];exact v
 have AO:∀i,i<N->kF (s.dR c++(s.kept c).take j) i=0\/∃o∈s.dR c++(s.kept c).take j,o.op.id.2=(i:Int)/\o.op.cb=(kF (s.dR c++(s.kept c).take j) i:Int):=λi b=>by
  by_cases e:0<kF (s.dR c++(s.kept c).take j) i
  .exact .inr (ok.arf q gx b e)
  exact .inl (by omega)
 have dO:(BV s c j).dR c=s.dR c++(s.kept c).take j:=by unfold BV;simp only[bL]
 have Y:∀i,i<N->(p0 S c (iU (s.dR c++(s.kept c).take j))).df c i=kF (s.dR c++(s.kept c).take j) i:=λi b=>by unfold p0;simp only[bL];exact ari i b
 refine⟨?_,⟨h.bJ,h.ai,h.gt,h.en,h.ms,h.sh,h.ic,λa d i D p b=> ?_⟩,λa i D b=> ?_,λa d i D p Hd b=> ?_⟩
 .unfold DS iU;rw[ga,r6,dh];have F:((s.dR c).map λo=>(o.op.id.2.toNat,o.op.cb.toNat)).filter (λf=>decide (S.df c f.1<f.2))=[]:=by rw[atV];intro f aH;obtain⟨o,g,rfl⟩:=dF.1 aH;obtain⟨i,b,e,_⟩:=C o (by rw[v];exact p3 _ g);have :=(ok.Yb y q b e).1 g;simp only[e,xP,Eb];omega
  have z:(((s.kept c).take j).map λo=>(o.op.id.2.toNat,o.op.cb.toNat)).filter (λf=>decide (S.df c f.1<f.2))=((s.kept c).take j).map λo=>(o.op.id.2.toNat,o.op.cb.toNat):=by rw[af1];intro f aH;obtain⟨o,g,rfl⟩:=dF.1 aH;have hS:=mo g;obtain⟨i,b,e,_⟩:=C o (E o hS);obtain⟨l,m,el⟩:=List.append_of_mem hS;have :=(ok.Yb y q b e).2 l m el;simp only[e,xP,Eb];omega
  rw[F,z];simp;omega
 .by_cases w:a=c
  .subst w;rw[Y i b];rcases AO i b with cR|⟨o,g,F,z⟩
   .omega
   have :=ok'.BO a D o (by rw[dO];exact g) d p;replace this:o.op.cb<=s.ai d o.op.id.2.toNat:=this;rw[F,xP,h.ai d p i b,z]at this;show _<=S.ai d i;omega
  show upd S.df c _ a i<=S.ai d i;rw[ch _ _ w];exact h.uO a d i D p b
 .by_cases w:a=c
  .subst w;rw[Y i b,dO]
  show upd S.df c _ a i=kF (upd s.dR c _ a) i;rw[ch _ _ w,ch _ _ w];exact y.1 a i D b
 by_cases w:a=c
 .subst w;rw[Y i b];rcases AO i b with cR|⟨o,g,F,z⟩
  .omega
  have r:=I _ (dF.2 ⟨o,by rw[X];exact g,rfl⟩);simp only[F,xP]at r;have :=(U i _ b).1 r d p Hd;show _<=S.bC a d i;omega
 show upd S.df c _ a i<=S.bC a d i;rw[ch _ _ w];exact y.2 a d i D p Hd b
end
section
open Go.RowKit Go.Conc Tryz
variable {a b d e:Nat}{c:World}
theorem arj {P:Program} {Q:Goroutine->World->Prop} {f:FuncId} {args:Array Value} {a:Frame} {cs:List Frame} {w:World} {R:World->Prop} (d:Calls P f args w λe w'=>(∃v,e=ad v)/\R w') {b:Frame} (i:b=Frame.enter P f args .normal) (h:∀v w',R w'->LoneTo P Q (G (a.finish v) cs) w'):LoneTo P Q (G b (a::cs)) w:=by subst i;obtain⟨e,w',j,⟨⟨v,rfl⟩,k⟩,l,_,m⟩:=d (a::cs);obtain⟨n,o,p,q⟩:=LoneTo.step (P:=P) (Q:=Q) (g:=G j (a::cs)) (w:=w') (g':=G (a.finish v) cs) (w':=w') (atL (c:=a) (cs:=cs) m) (h v w' k);exact⟨n,o,Steps.trans l p,q⟩
theorem ark{P:Program}{Q d:Goroutine->World->Prop}{g:Goroutine}(h:LoneTo P Q g c)(e:∀a b,Q a b->d a b):LoneTo P d g c:=
 let⟨a,b,f,i⟩:=h;⟨a,b,f,e a b i⟩
def NS (N c d:Nat):Nat->bx->bx->Prop
 |0,s,a=>a=s
 |k+1,s,a=>∃b,vQ N s c d b/\NS N c d k b a
theorem vQ.rest{e}{s:bx}{c:Nat}(f:c≠a){m:iv}{d:List iv}(g:s.ms c a=m::d)(h:vQ b s c a e):e.ms c a=d/\e.sh=s.sh:=by
 unfold vQ at h;rw[g]at h;cases m with
 |inl l=>obtain⟨i,_,_,rfl⟩:=h;refine⟨?_,rfl⟩;show upd (upd s.ms c (upd (s.ms c) a d)) a _ c a=d;rw[ch _ _ f,bL,bL]
 |inr j=>obtain⟨_,_,rfl⟩:=h;refine⟨?_,rfl⟩;show upd s.ms c (upd (s.ms c) a d) c a=d;rw[bL,bL]
def NT:Code->Code:=λc=>BI (BH (rb (match rb (rb (rb (rb c))) with |.seq a _=>a|a=>a)))
def NU:Code->Code:=λc=>rb (rb (rb (rb (rb c))))
def afe (b:List Frame) (R:Int->World->Prop) (c:Goroutine) (w':World):Prop:=∃e a,c=G a b/\(∃n,e=ad (.tuple #[A n,A 0])/\R n w')/\a.fn=122/\a.leaving prog w' e
theorem arl{B e:Code}(g:B=NT (f122.body.getD .skip))(h:e=NU (f122.body.getD .skip)){R:Int->World->Prop}{w:World}(i:w.heap[a]?=some (.chan 12 #[] true b d false))(n:Int)(j:R n w)(f:List Frame)(k l m o p q r s t u v x y C D E F I L M N P Q S U W X Y KI KJ KK NV NW NX NY NZ N0 N1 N2 N3 N4 KL:Value):
  LoneTo prog (afe f R) (G ((base 122).at ⟨#[k,l,m,o,p,q,r,s,t,u,A n,v,x,y,C,D,E,F,I,L,M,N,P,Q,S,U,W,X,Y,KI,KJ,KK,.chan (some a),NV,NW,NX,NY,NZ,N0,N1,N2,N3,N4,KL],[]⟩ [.code B,.inLoop B,.inBlock 1,.code e]) f) w:=by
 refine LoneTo.goes (n:=20) ?_;simp only[g,h,f122,nb,NT,NU,rb,BH,BI]
 s_c stepG_seq
 s_reg
 s_stop
 refine LoneTo.step (step_lone_recv_shut true (c:=a) (z:=.nilIface) (stepG_comm (cases := #[rcase a .nilIface]) (blocking:=true) (shape:=.recv true) (w':=w) rfl rfl (by decide) (by simp[go_sem,rcase])) i) ?_;rw[K8]
 walk_nrm
 refine LoneTo.goes (n:=20) ?_
 s_op
 s_c stepG_region_end
 s_c stepG_seq
 s_cond false
 s_exit
 s_c stepG_seq
 s_reg
 s_op
 s_op
 s_op
 s_c stepG_region_end
 s_c stepG_ret'
 s_stop
 exact LoneTo.done ⟨ad (.tuple #[A n,A 0]),_,rfl,⟨n,rfl,j⟩,rfl,rfl,rfl,rfl,_,func122,by simp[results,f122,Frame.at]⟩
theorem arm{B g:Code}(hB:B=NT (f122.body.getD .skip))(cy:g=NU (f122.body.getD .skip)){c:Nat}{M:Nat->List ay}(q:c<b)(r:a<b)(j:c≠a)(cs:List Frame):
  ∀(k:Nat) (n:Int) (w:World) (F I:Nat->Prop) (s:bx) (x:da) (R:Int->World->Prop) (t y C D E L N zR P Q S U W X Y xr yH KA KB KC KD KE KF KG KH KI KJ KK NV NW NX NY NZ N0 N1 N2 N3 N4 KL:Value),0<=n->n+k<=100->eC w d F I b e s x->ed b M s->s.sh c a=true->(s.ms c a).length=k->
   (∀w' s',NS b c a k s s'->yJ d b e F I w w' s'->R (n+k) w')->
   LoneTo prog (afe cs R) (G ((base 122).at ⟨#[Z d,A c,A a,t,y,C,D,E,L,N,A n,zR,P,Q,S,U,W,X,Y,xr,yH,KA,KB,KC,KD,KE,KF,KG,KH,KI,KJ,KK,.chan (some (x.gc c a)),NV,NW,NX,NY,NZ,N0,N1,N2,N3,N4,KL],[]⟩ [.code B,.inLoop B,.inBlock 1,.code g]) cs) w:=by
 intro k
 induction k with
 |zero=>
  intro n w F I s x R t y C D E L N zR P Q S U W X Y xr yH KA KB KC KD KE KF KG KH KI KJ KK NV NW NX NY NZ N0 N1 N2 N3 N4 KL oW hn h ok aj i bO;have o:=D7 i;have p:=h.k5 c a q r j;have aO:x.hh c a=[]:=by
   have :=h.vO c a q r j;rw[o]at this;cases f:x.hh c a with
   |nil=>rfl
   |cons _ _=>rw[f]at this;exact this.elim
  rw[aO,aj]at p;exact arl hB cy p.mT n (by simpa using bO w s rfl (h.same (ca _ _))) cs _ _ _ _ _ _ _ _ _ _ _ _ _ _ _ _ _ _ _ _ _ _ _ _ _ _ _ _ _ _ _ _ _ _ _ _ _ _ _ _ _ _
 |succ k ih=>
  intro n w F I s x R t y C D E L N zR P Q S U W X Y xr yH KA KB KC KD KE KF KG KH KI KJ KK NV NW NX NY NZ N0 N1 N2 N3 N4 KL oW hn h ok aj i bO;obtain⟨m,ms,o⟩:∃m ms,s.ms c a=m::ms:=by
   cases f:s.ms c a with
   |nil=>rw[f]at i;cases i
   |cons m ms=>exact⟨m,ms,rfl⟩
  obtain⟨v,l,p,hq⟩:=adc h ok q r j o;rw[aj]at p hq;refine LoneTo.goes (n:=40) ?_;simp only[hB,cy,f122,nb,NT,NU,rb,BH,BI]
  s_c stepG_seq
  s_reg
  s_stop
  refine LoneTo.step (step_lone_recv_buf true (c:=x.gc c a) (z:=.nilIface) (stepG_comm (cases := #[rcase (x.gc c a) .nilIface]) (blocking:=true) (shape:=.recv true) (w':=w) rfl rfl (by decide) (by simp[go_sem,rcase])) p.mT (by simp)) ?_;rw[K8];have av:(v::l).toArray.getD 0 undef=v:=by simp
  have aD:(v::l).toArray.extract 1 (v::l).toArray.size=l.toArray:=by simp
  rw[av,aD]
  walk_nrm
  refine LoneTo.goes (n:=40) ?_
  s_op
  s_c stepG_region_end
  s_c stepG_seq
  s_cond true
  s_c stepG_skip
  s_c stepG_block
  s_c stepG_seq
  s_reg
  s_op
  s_op
  s_c stepG_region_end
  s_c stepG_seq
  s_reg
  s_op
  s_op
  s_op
  s_op
  s_in
  refine goes_call rfl rfl (by decide) rfl func75 rfl rfl ⟨trivial,?_⟩
  s_stop
  refine arj hq (by simp[Frame.enter,Frame.at,func75,base,f75,Act.eval]) λu w1 aC=> ?_
  obtain⟨s1,qX,jZ,mF,x1,n2,rZ,e9⟩:=aC;rw[K8]
  walk_nrm
  have jR:IntKind.i64.wrap (n+1)=n+1:=mN _ (by omega);refine LoneTo.goes (n:=20) ?_
  s_c stepG_region_end
  s_reg
  s_op
  s_op
  s_op
  s_c stepG_region_end
  s_c stepG_inBlock
  s_c stepG_inLoop
  s_stop
  obtain⟨fQ,fp⟩:=qX.rest j o;have h2:=ih (n+1) w1 jZ mF s1 x1 R t y C D E L N v P Q S U W X Y xr yH KA KB KC KD KE KF KG KH KI KJ KK (.tuple #[v,.bool true]) (.bool true) v (Z d) v (A c) (A a) u (A n) (A (n+1)) KL (by omega) (by omega) n2 (ok.Du q r j qX) (by rw[fp];exact aj) (by rw[fQ];rw[o]at i;simpa using i) λw' s' de fK=>by obtain⟨aY,I',x',h1,h2,ax⟩:=fK;have :=bO w' s' ⟨s1,qX,de⟩ ⟨aY,I',x',h1,rZ.1.trans h2,rZ.2.trans ax rZ.1.size⟩;rw[show n+1+(k:Int)=n+((k+1:Nat):Int) by omega];omega
  simp only[e9,hB,cy,f122,nb,NT,NU,rb,BH,BI]at h2;exact h2
def aff (r N b:Nat) (F I:Nat->Prop) (s:bx) (c d:Nat) (w:World) (e:Ending) (f:World):Prop:=e=ad (.tuple #[A (if s.sh c d=true then((s.ms c d).length:Int) else 0),A (if s.sh c d=true then 0 else 11)])/\∃a,NS N c d (if s.sh c d=true then(s.ms c d).length else 0) s a/\yJ r N b F I w f a
theorem arn {F I:Nat->Prop} {p:Nat} {s:bx} {x:da} {M:Nat->List ay} (h:eC c e F I d p s x) (ok:ed d M s) (i:a<d) (j:b<d) (k:a≠b):
  O 122 #[Z e,A a,A b] c λf g=>aff e d p F I s a b c f g:=by
 have r:=MR h i j k;have l:=h.k5 a b i j k;have E:c.cell? (H (x.gl a b))=some (.chan (some (x.gc a b))):=by simp[World.cell?,l.bb]
 have t:c.cell? (K (x.gl a b) 1)=some (.bool (s.sh a b)):=by simp[World.cell?,l.bb]
 cases m:s.sh a b with
 |false=>
  rw[m]at t;go_enter func122,ntmps122;go_wp2_with fail
  refine r.mono ?_;rintro f q ⟨rfl,rfl⟩;go_wp2;go_ret2
  unfold aff;rw[m];exact⟨rfl,s,rfl,h.same (ca _ _)⟩
 |true=>
  rw[m]at t l;refine calls_of_loneTo λu=> ?_
  have f:Frame.enter prog 122 #[Z e,A a,A b] .normal=(base 122).at ⟨#[Z e,A a,A b,undef,undef,undef,undef,undef,undef,undef,undef,undef,undef,undef,undef,undef,undef,undef,undef,undef,undef,undef,undef,undef,undef,undef,undef,undef,undef,undef,undef,undef,undef,undef,undef,undef,undef,undef,undef,undef,undef,undef,undef,undef],[]⟩ [.code (f122.body.getD .skip)]:=by simp[Frame.enter,Frame.at,func122,base,f122]
  rw[f];refine LoneTo.goes (n:=40) ?_;simp only[f122,nb]
  s_c stepG_seq
  s_reg
  s_op
  s_op
  s_c stepG_region_end
  s_c stepG_seq
  s_reg
  s_op
  s_op
  s_op
  s_in
  refine goes_call rfl rfl (by decide) rfl func51 rfl rfl ⟨trivial,?_⟩
  s_stop
  refine acv r (by simp[Frame.enter,Frame.at,func51,base,f51,Act.eval]) λq v=> ?_
  subst v;rw[K8]
  walk_nrm
  refine LoneTo.goes (n:=60) ?_
  s_op
  s_op
  s_op
  s_op
  s_op
  s_c stepG_region_end
  s_c stepG_seq
  s_c stepG_block
  s_c stepG_seq
  s_reg
  s_op
  s_op
  s_op
  s_c stepG_region_end
  s_cond false
  s_c stepG_seq
  s_reg
  s_op
  s_op
  s_op
  s_op
  s_op
  s_op
  s_c stepG_region_end
  s_cond false
  s_c stepG_skip
  s_c stepG_inBlock
  s_c stepG_seq
  s_reg
  s_op
  s_c stepG_region_end
  s_c stepG_seq
  s_c stepG_seq
  s_reg
  s_op
  s_op
  s_op
  s_op
  s_c stepG_region_end
  s_c stepG_block
  s_c stepG_loop
  s_stop
  have w:=l.len;rw[<-(h.vO a b i j k).len]at w;refine ark (arm rfl rfl i j k u (s.ms a b).length 0 q F I s x (λn g=>n=(s.ms a b).length/\∃o,NS d a b (s.ms a b).length s o/\yJ e d p F I q g o) _ _ _ _ _ _ _ _ _ _ _ _ _ _ _ _ _ _ _ _ _ _ _ _ _ _ _ _ _ _ _ _ _ _ _ _ _ _ _ (by omega) (by omega) h ok m rfl (λg o y z=>⟨by omega,o,y,z⟩)) ?_;rintro L g ⟨f,B,C,⟨n,N,P,Q⟩,D⟩;refine⟨f,B,C,⟨?_,?_⟩,D⟩
  .simp_all
  simp_all
end
