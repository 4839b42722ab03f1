/- Our own text. -/
import Derived.Test.YtnkpogjiiohapaaGreatDoorA13
import Derived.Test.YtnkpogjiiohapaaGreatDoorA16
set_option linter.unusedSimpArgs false
set_option linter.unusedVariables false
set_option maxRecDepth 1000000
set_option maxHeartbeats 4000000
namespace Go.Proofs.YtnkpogjiiohapaaGreatDoor
section
open Go.RowKit Tryz
variable {a c d e j r:Nat}{b:List hV}{f m:Nat->Prop}{h i v:Value}{k:List ay}{l:cZ}{n q:PId}{s u:World}
def m6 (x:ay):List ay->List ay
 |[]=>[x]
 |o::l=>if gj o.op.id x.op.id=true then o::m6 x l else x::o::l
def ur (x:ay):List ay->Nat
 |[]=>0
 |o::l=>if gj o.op.id x.op.id=true then ur x l+1 else 0
def q6 (l:List ay):Prop:=l.Pairwise λa b=>gj a.op.id b.op.id=true
theorem Ve(x:ay):∀l:List ay,m6 x l=l.take (ur x l)++x::l.drop (ur x l)
 |[]=>rfl
 |o::l=>by
  unfold m6 ur;split
  .rw[af8,List.drop_succ_cons,p5,<-Ve x l]
  rfl
theorem Vf(x:ay):∀l:List ay,ur x l<=l.length
 |[]=>bW _
 |o::l=>by
  unfold ur;split
  .simpa using Vf x l
  simp
theorem abK(x:ay):∀(l:List ay) (i:Nat) (a:i<l.length),i<ur x l->gj l[i].op.id x.op.id=true
 |o::l,0,_,h=>by
  unfold ur at h;split at h
  .simp_all
  omega
 |o::l,i+1,a,h=>by
  unfold ur at h;split at h
  .exact abK x l i (by simp_all) (by omega)
  omega
theorem EX{c:PId}(a:gj n q=true)(b:gj q c=true):gj n c=true:=by have x:=(rU n q).1 a;have y:=(rU q c).1 b;exact(rU n c).2 (by omega)
theorem yq(a:PId):gj a a=false:=(Da a a).2 (by omega)
theorem abL(h:n≠q)(b:¬gj n q=true):gj q n=true:=by
 cases a:gj q n with
 |true=>rfl
 |false=>exact absurd (Vd (by simp_all) a) h
theorem abM(x:ay):∀(l:List ay),q6 l->(∀o∈l,o.op.id≠x.op.id)->∀(i:Nat) (a:i<l.length),ur x l<=i->gj x.op.id l[i].op.id=true
 |o::l,f,b,i,a,h=>by
  unfold ur at h;have c:=s9.1 f;split at h
  .obtain⟨j,rfl⟩:∃j,i=j+1:=⟨i-1,by omega⟩;exact abM x l c.2 (λo g=>b o (jk _ g)) j (by simp_all) (by omega)
  rename_i e
  have d:=abL (b o kH) e
  match i,a with
  |0,_=>exact d
  |i+1,a=>exact EX d (c.1 _ (dB _))
theorem JE(x:ay):∀l:List ay,(m6 x l).Perm (x::l)
 |[]=>.refl _
 |o::l=>by
  unfold m6;split
  .exact((JE x l).cons o).trans (.swap _ _ _)
  rfl
theorem abN(x:ay):∀(l:List ay),q6 l->(∀o∈l,o.op.id≠x.op.id)->q6 (m6 x l)
 |[],_,_=>OJ _ _
 |o::l,c,d=>by
  have f:=s9.1 c;unfold m6;split
  .rename_i e
   refine s9.2 ⟨λb a=> ?_,abN x l f.2 λo h=>d o (jk _ h)⟩;rcases ft.1 ((JE x l).mem_iff.1 a) with rfl|a
   .exact e
   simp_all
  rename_i e
  have g:=abL (d o kH) e;refine s9.2 ⟨λb a=> ?_,c⟩;rcases ft.1 a with rfl|a
  .exact g
  exact EX g (f.1 b a)
theorem abO{x:ay}(h:a<=ur x k):(m6 x k).take a=k.take a:=by rw[Ve,Ay (by rw[gU];have :=Vf x k;omega),Gb,show min a (ur x k)=a by omega]
theorem abP(x:ay)(l:List ay):(m6 x l).length=l.length+1:=by have :=(JE x l).length_eq;omega
theorem als(h:gj n q=true):pE n q<0:=by simpa[gj]using h
theorem alt(h:gj n q=true):0<pE q n:=by have :=(rU n q).1 h;unfold pE L5 yi;omega
structure sJ (w:World) (ah sp su:Nat) (c5 cl:Value) (ar:List ay) (e:Nat) (rs:List hV) (d aF be:Nat) (F I:Nat->Prop) (D0:k8) (D:cZ):Prop where
 bb:kP w ah sp su c5 cl d
 row:eV 0 w c5 ar
 chg:∀o∈ar,rQ w I (.iface o.t o.v) o.op.chg
 mem:o4 0 w cl (rs.map (·.d))
 rR:1<=sp
 sH:sp<=50
 tt:su<sp
 le:e<=ar.length
 len:ar.length<=300
 sI:∀r∈rs,cW w r.d r.b r.e r.D.1 r.D.2/\fJ r.b r.e (lF F rs aF be) r.D.1 r.D.2/\ha r.D
 mx:∀j (aB:j<rs.length),j*sp-su<=e->ES D0 ((ar.map (·.op)).take (j*sp-su)) rs[j].D
 q:cW w d aF be D.1 D.2
 own:fJ aF be (lF F rs aF be) D.1 D.2
 kj:ha D
 maps:(lE rs aF be).Nodup
 pG:F ah
 qh:∀k,c5.ownBlock=some k->F k
 q5:∀k,cl.ownBlock=some k->F k
 cc:∀r∈rs,F r.d/\F r.b/\F r.e
 fd:F d
 pH:F aF
 pI:F be
 lt:∀k,F k->k<w.heap.size
 e0:∀k,I k->¬F k
 cI:∀k,I k->k<w.heap.size
theorem iP.x{w su ar e k F D0 D}(g:iP w a c su h i ar e b d r k F f D0 D):sJ w a c su h i ar e b d r k F f D0 D:=
 ⟨g.bb,g.row,g.chg,g.mem,g.rR,g.sH,g.tt,g.le,g.len,g.sI,λj l _=>g.mx j l,g.q,g.own,g.kj,g.maps,g.pG,g.qh,g.q5,g.cc,g.fd,g.pH,g.pI,g.lt,g.e0,g.cI⟩
theorem sJ.g{w sp su ar e D0}(k:sJ w a sp su h i ar e b c d r f m D0 l)(o:∀j,j<b.length->j*sp-su<=e)(p:ES D0 ((ar.map (·.op)).take e) l):iP w a sp su h i ar e b c d r f m D0 l:=
 ⟨k.bb,k.row,k.chg,k.mem,k.rR,k.sH,k.tt,k.le,k.len,k.sI,λj n=>k.mx j n (o j n),k.q,k.own,k.kj,p,k.maps,k.pG,k.qh,k.q5,k.cc,k.fd,k.pH,k.pI,k.lt,k.e0,k.cI⟩
theorem sJ.hA{sp su B D0}(n:sJ s a sp su h i B c b d e j f m D0 l)(C:s.heap.size<=u.heap.size)(w:∀k,f k->u.heap[k]?=s.heap[k]?)(E:∀k,m k->u.heap[k]?=s.heap[k]?):sJ u a sp su h i B c b d e j f m D0 l:=by
 refine⟨?_,cu n.row λg y=>w g (n.qh g y),λo F=>(n.chg o F).fW E (λ_ x=>x),cu n.mem λg y=>w g (n.q5 g y),n.rR,n.sH,n.tt,n.le,n.len,λr D=> ?_,n.mx,n.q.ke n.own (w _ n.fd) (w _ n.pH) (w _ n.pI) λk z=>w k z.1,n.own,n.kj,n.maps,n.pG,n.qh,n.q5,n.cc,n.fd,n.pH,n.pI,λk hF=>c0 (n.lt k hF) C,n.e0,λk hF=>c0 (n.cI k hF) C⟩
 .unfold kP;rw[w _ n.pG];exact n.bb
 obtain⟨t,p,v⟩:=n.sI r D;obtain⟨I,L,M⟩:=n.cc r D;exact⟨t.ke p (w _ I) (w _ L) (w _ M) λk z=>w k z.1,p,v⟩
theorem sJ.ak{w p e q D0}{w':World}(g:sJ w a c d h i p e b j r q f m D0 l)(n:J w w'):sJ w' a c d h i p e b j r q f m D0 l:=g.hA n.size (λk o=>n.block k (g.lt k o)) (λk o=>n.block k (g.cI k o))
theorem sJ.insert {N P:Nat} {Q:Value} {e:Nat} {D0:k8} (p:sJ s r N P h Q k e b j a d f m D0 l) (hl:k.length<300) {x:ay} (E:aR (λn=>n=r\/h.ownBlock=some n) s u) (R:kP u r N P i Q j) (D:eV 0 u i (m6 x k)) (hn:lB s h i) (I:rQ s m (.iface x.t x.v) x.op.chg):
  ∃W,sJ u r N P i Q (m6 x k) (min e (ur x k)) b j a d W m D0 l/\dp f W s u:=by
 have X:∀{j a d:Nat} {Y:List (PId×fr)} {bk:List (PId×eG)},cW s j a d Y bk->cW u j a d Y bk:=λaw=>aw.kept E λn C=>by
  rcases C with rfl|C
  .exact⟨_,_,_,p.bb,by decide⟩
  obtain⟨cur,I⟩:=b0 p.row C;exact⟨_,_,_,I,by decide⟩
 have AP:∀n∈lE b a d,n<s.heap.size:=λn C=>by
  rcases kQ.1 C with⟨w,D,rfl|rfl⟩|rfl|rfl
  .exact p.lt _ (p.cc w D).2.1
  .exact p.lt _ (p.cc w D).2.2
  .exact p.lt _ p.pH
  exact p.lt _ p.pI
 have qr:∀n,lF f b a d n->lF (λn=>f n\/(s.heap.size<=n/\n<u.heap.size)) b a d n:=λn C=>⟨.inl C.1,C.2⟩
 have L:∀n,n∈lE b a d->¬lF (λn=>f n\/(s.heap.size<=n/\n<u.heap.size)) b a d n:=λn C R=>R.2 C
 have hnS:∀n,m n->¬(n=r\/h.ownBlock=some n):=λn C F=>by
  rcases F with rfl|F
  .exact p.e0 _ C p.pG
  exact p.e0 _ C (p.qh _ F)
 refine⟨λn=>f n\/(s.heap.size<=n/\n<u.heap.size),⟨R,D,λo S=> ?_,cu p.mem λg aq=> ?_,p.rR,p.sH,p.tt,?_,by rw[abP];omega,λw D=> ?_,λy aB tx=> ?_,X p.q,p.own.mono qr (L _ (kQ.2 (.inr (.inl rfl)))) (L _ (kQ.2 (.inr (.inr rfl)))),p.kj,p.maps,.inl p.pG,λn C=> ?_,λn C=>.inl (p.q5 n C),λw D=>⟨.inl (p.cc w D).1,.inl (p.cc w D).2.1,.inl (p.cc w D).2.2⟩,.inl p.fd,.inl p.pH,.inl p.pI,λn C=>C.elim (λhF=>c0 (p.lt n hF) E.size) (λx=>x.2),λn M C=>C.elim (p.e0 n M) (λx=>by have :=p.cI n M;omega),λn M=>c0 (p.cI n M) E.size⟩,⟨E.os,E.tape,E.output,E.size,λn C hF=>E.other n C λF=> ?_,λn C=>C.imp id (·.1)⟩⟩
 .rcases ft.1 ((JE x k).mem_iff.1 S) with rfl|S
  .exact I.fW (λn C=>E.other n (p.cI n C) (hnS n C)) (λ_ x=>x)
  exact(p.chg o S).fW (λn C=>E.other n (p.cI n C) (hnS n C)) (λ_ x=>x)
 .obtain⟨cur,I⟩:=b0 p.mem aq;refine E.other g (aU I) λF=> ?_
  rcases F with rfl|F
  .exact absurd (cQ I p.bb) (by decide)
  obtain⟨hE,cD⟩:=b0 p.row F;exact absurd (cQ I cD) (by decide)
 .rw[abP];have :=p.le;omega
 .obtain⟨z,B,c⟩:=p.sI w D;exact⟨X z,B.mono qr (L _ (kQ.2 (.inl ⟨w,D,.inl rfl⟩))) (L _ (kQ.2 (.inl ⟨w,D,.inr rfl⟩))),c⟩
 .have :=p.mx y aB (by omega);rw[<-Cd]at this⊢;rw[abO (by omega)];exact this
 .rcases hn with U|U
  .rw[U]at C;exact .inl (p.qh n C)
  refine .inr ⟨U n C,?_⟩;obtain⟨cur,I⟩:=b0 D C;exact aU I
 rcases F with rfl|F
 .exact hF p.pG
 exact hF (p.qh _ F)
theorem alu{l:Nat}(h:(lE b r l).Nodup)(o:∀k∈lE b r l,k<j)(t:j<=a)(u:j<=c)(p:a≠c):(lE (b.take d) a c).Nodup:=by
 obtain⟨q,_,_⟩:=nI.1 h;have m:((b.take d).flatMap λf=>[f.b,f.e]).Sublist (b.flatMap λf=>[f.b,f.e]):=by
  conv=>rhs;rw[<-za d b]
  rw[oL];simp
 refine nI.2 ⟨m.nodup q,by simp[p],λg s i n=> ?_⟩;have :=o g (p3 _ (m.subset s));simp at n;rcases n with rfl|rfl<;>omega
theorem sJ.back {P:Nat} {y:Nat} {z M:Nat} {D0:k8} (q:sJ s c d P i v k y b z r M f m D0 l) {W:Nat} (cE:a<b.length) (he:a*d-P<=y) (L:aR (λn=>n=c\/v.ownBlock=some n) s u) (Q:kP u c d P i h W) (F:o4 0 u h ((b.take (a+1)).map (·.d))) (aO:h.ownBlock=v.ownBlock) (N:cW u W e j b[a].D.1 b[a].D.2) (h1:s.heap.size<=W) (h2:s.heap.size<=e) (ax:s.heap.size<=j) (a8:e≠j):
  ∃aY,iP u c d P i h k (a*d-P) (b.take (a+1)) W e j aY m D0 b[a].D/\dp f aY s u:=by
 have Hg:∀{z r M:Nat} {os:List (PId×fr)} {bk:List (PId×eG)},cW s z r M os bk->cW u z r M os bk:=λN=>N.kept L λn E=>by
  rcases E with rfl|E
  .exact⟨_,_,_,q.bb,by decide⟩
  obtain⟨cur,R⟩:=b0 q.mem E;exact⟨_,_,_,R,by decide⟩
 have AP:∀n∈lE b r M,n<s.heap.size:=λn E=>by
  rcases kQ.1 E with⟨t,F,rfl|rfl⟩|rfl|rfl
  .exact q.lt _ (q.cc t F).2.1
  .exact q.lt _ (q.cc t F).2.2
  .exact q.lt _ q.pH
  exact q.lt _ q.pI
 have S:∀t,t∈b.take (a+1)->t∈b:=λt F=>mo F
 have X:∀n,lF f b r M n->lF (λn=>f n\/(s.heap.size<=n/\n<u.heap.size)) (b.take (a+1)) e j n:=λn E=>⟨.inl E.1,λQ=>by
  have :=q.lt _ E.1;rcases kQ.1 Q with⟨t,F,y⟩|rfl|rfl
  .exact E.2 (kQ.2 (.inl ⟨t,S t F,y⟩))
  .omega
  omega⟩
 have Y:∀n,n∈lE (b.take (a+1)) e j->¬lF (λn=>f n\/(s.heap.size<=n/\n<u.heap.size)) (b.take (a+1)) e j n:=λn E Q=>Q.2 E
 obtain⟨_,_,U4⟩:=N.al;obtain⟨_,_,JA⟩:=N.he;obtain⟨q7,Qv,lG⟩:=q.sI b[a] (dB cE);have eb:=q.le;refine⟨λn=>f n\/(s.heap.size<=n/\n<u.heap.size),⟨Q,cu q.row λg aq=> ?_,λo al=>(q.chg o al).fW (λn E=>L.other n (q.cI n E) λI=> ?_) (λ_ x=>x),F,q.rR,q.sH,q.tt,by omega,q.len,λt F=> ?_,λB aB=> ?_,N,⟨a8,Y _ (kQ.2 (.inr (.inl rfl))),Y _ (kQ.2 (.inr (.inr rfl))),λp U w c=>X w (Qv.gQ p U w c),λp U n E w c=>X w (Qv.ja p U n E w c),λp U w c=>X w (Qv.hh p U w c)⟩,lG,q.mx a cE he,alu q.maps AP h2 ax a8,.inl q.pG,λn E=>.inl (q.qh n E),λn E=>.inl (q.q5 n (aO▸E)),λt F=>⟨.inl (q.cc t (S t F)).1,.inl (q.cc t (S t F)).2.1,.inl (q.cc t (S t F)).2.2⟩,.inr ⟨h1,N.lt⟩,.inr ⟨h2,U4.lt⟩,.inr ⟨ax,JA.lt⟩,λn E=>E.elim (λhF=>c0 (q.lt n hF) L.size) (λx=>x.2),λn hi E=>E.elim (q.e0 n hi) (λx=>by have :=q.cI n hi;omega),λn hi=>c0 (q.cI n hi) L.size⟩,⟨L.os,L.tape,L.output,L.size,λn E hF=>L.other n E λI=> ?_,λn E=>E.imp id (·.1)⟩⟩
 .obtain⟨cur,R⟩:=b0 q.row aq;refine L.other g (aU R) λI=> ?_
  rcases I with rfl|I
  .exact absurd (cQ R q.bb) (by decide)
  obtain⟨hE,cD⟩:=b0 q.mem I;exact absurd (cQ R cD) (by decide)
 .rcases I with rfl|I
  .exact q.e0 _ E q.pG
  exact q.e0 _ E (q.q5 _ I)
 .obtain⟨C,w,D⟩:=q.sI t (S t F);exact⟨Hg C,w.mono X (Y _ (kQ.2 (.inl ⟨t,F,.inl rfl⟩))) (Y _ (kQ.2 (.inl ⟨t,F,.inr rfl⟩))),D⟩
 .rw[gU]at aB;have hjL:B*d<=a*d:=wn d (by omega);rw[K1];exact q.mx B (by omega) (by omega)
 rcases I with rfl|I
 .exact hF q.pG
 exact hF (q.q5 _ I)
end
section
open Go.RowKit Tryz
attribute [local go_sem ↓] Go.wp_at_zero Go.wp_at_succ
variable {a b d e f h:Nat}{c:List ay}
theorem abQ{e:Nat}(i:1<=a)(j:b<a):((b+e)/a)*a-b<=e/\(b+(((b+e)/a)*a-b))/a=(b+e)/a:=by
 have d:=Y5 (b+e) a;have f:=IC (b+e) i;generalize(b+e)/a=L at *;generalize(b+e)%a=t at *;have c:a*L=L*a:=K7 _ _;refine⟨by omega,?_⟩;by_cases h:b<=L*a
 .rw[show b+(L*a-b)=L*a by omega,Nat.mul_div_cancel _ i]
 have k:L=0:=by
  rcases S3 L with g|g
  .exact g
  have :=wn a g;omega
 simp_all
theorem alv(g:f=(b+d)/a+1)(h:e<f):e*a-b<=d:=by
 have c:e<=(b+d)/a:=by omega
 have i:=wn a c;have j:=Nat.div_mul_le_self (b+d) a;omega
theorem alw {w:World} {P s:Value} {e:Nat} {l:List hV} {Y:Nat} {F I:Nat->Prop} {D0:k8} {D:cZ} (i:sJ w d a b P s c e l f h Y F I D0 D) (t:(b+e)/a<l.length):
  O 190 #[Z d,A e] w λr n=>∃vr' Q o p q m D',r=ad (A ((((b+e)/a)*a-b:Nat):Int))/\iP n d a b P vr' c (((b+e)/a)*a-b) Q o p q m I D0 D'/\Q.length=(b+e)/a+1/\dp F m w n:=by
 obtain⟨R,lj⟩:=abQ (e:=e) i.rR i.tt;have eb:=i.le;have hlen:=i.len;have gx:=i.sH;have yk:=i.tt;obtain⟨S,Qv,lG⟩:=i.sI l[(b+e)/a] (dB t);have U:(l.map (·.d))[(b+e)/a]?=some l[(b+e)/a].d:=by rw[Av,uX t];rfl
 have W:(l.take ((b+e)/a+1)).length=(b+e)/a+1:=by rw[gU];omega
 rcases(show(b+e)/a+1=l.length\/(b+e)/a+1<l.length by omega) with v|v
 .refine(akG i.bb i.mem e (by omega) i.rR i.sH (by omega) _ rfl (by rw[c2];exact v) U S).mono ?_;rintro r n ⟨o,p,q,rfl,x,y,⟨z,B,C,E⟩,u⟩;have hp:o4 0 n s ((l.take ((b+e)/a+1)).map (·.d)):=by
   rw[kp (by omega)];exact cu i.mem λg aq=>by
    obtain⟨cur,L⟩:=b0 i.mem aq;exact u.other g (aU L) λbS=>by rw[bS]at L;exact absurd (cQ L i.bb) (by decide)
  obtain⟨m,M,N⟩:=i.back t R (u.mono (S':=λk=>k=d\/s.ownBlock=some k) (λk hk=>.inl hk)) x hp rfl y z B C E;exact⟨s,_,o,p,q,m,_,rfl,M,W,N⟩
 refine(akJ i.bb i.mem e (by omega) i.rR i.sH (by omega) _ rfl (by rw[c2];exact v) U S).mono ?_;rintro r n ⟨g,j,o,p,q,aO,rfl,x,X,y,⟨z,B,C,E⟩,u⟩;rw[<-Cd]at X;obtain⟨m,M,N⟩:=i.back t R u x X aO.symm y z B C E;exact⟨_,_,o,p,q,m,_,rfl,M,W,N⟩
def kk (a b:List ay):List ay:=b.foldl (λl x=>m6 x l) a
theorem abR{b:List ay}(d:a<c.length):kk b (c.take (a+1))=m6 c[a] (kk b (c.take a)):=by rw[lx d];unfold kk;rw[Ax];rfl
theorem EY:∀(b a:List ay),(kk a b).Perm (b++a)
 |[],a=>.refl _
 |x::b,a=>by exact((EY b (m6 x a)).trans ((JE x a).append_left b)).trans af4
theorem Vg(a b:List ay):(kk a b).length=a.length+b.length:=by have :=(EY b a).length_eq;rw[dh]at this;omega
theorem Qw:∀(b a:List ay),q6 a->((b++a).map λo=>o.op.id).Nodup->q6 (kk a b)
 |[],a,h,_=>h
 |x::b,a,h,c=>by
  simp only[p5,ip,oN]at c;refine Qw b (m6 x a) (abN x a h λo f e=>c.1 ?_) ?_
  .simp_all
  have d:((b++m6 x a).map λo=>o.op.id).Perm ((x::(b++a)).map λo=>o.op.id):=((((JE x a).append_left b).trans af4).map _);exact d.nodup_iff.2 (by simp_all)
theorem alx {w:World} {c5 Y:Value} {n:List ay} {E:List hV} {S:Nat} {F I:Nat->Prop} {D0:k8} {D:cZ} (l:iP w d b a c5 Y n n.length E f h S F I D0 D) (nS:E.length=(a+n.length)/b+1) (aE:q6 n) (m:List ay) (L:((m++n).map λo=>o.op.id).Nodup) (hlen:n.length+m.length<=300) (v:Value) (aO:eV 0 w v m) (yr:∀k,v.ownBlock=some k->¬F k) (hc:∀x∈m,rQ w I (.iface x.t x.v) x.op.chg):
  O 170 #[Z d,v] w λe w'=>(∃r,e=ad r)/\∃C vr' hW cz jc jd z D',iP w' d b a C vr' (kk n m) (kk n m).length hW cz jc jd z I D0 D'/\hW.length=(a+(kk n m).length)/b+1/\dp F z w w':=by
 obtain⟨jO,co,rfl,nw,Qq,Cp⟩:=bz l.row;obtain⟨dQ,dL,rfl,AR,zJ,ys⟩:=bz aO;obtain⟨bw,bm,bq,ce,eN⟩:=fh l.bb;have y:=ag (aN l (aN nS aE));have M:=ag (aN aO (aN yr (aN hc L)));have Vh:=ys;go_enter func170,ntmps170;go_wp2_with fail
 go_loopw [5,16] (λe i wr=>∃k q C z,k<=m.length/\i=A (k:Nat)/\e=A (q:Nat)/\q<=n.length/\sJ wr d b a C Y (kk n (m.take k)) q E f h S z I D0 D/\(kk n (m.take k)).take q=n.take q/\dp F z w wr) (λ_ i _=>m.length-(intOf i).toNat)
 case atStart=>exact⟨0,n.length,_,F,b6 _,rfl,rfl,bW _,y.o.1.x,rfl,dp.cL (ca _ _)⟩
 case round=>
  obtain⟨k,q,C,z,hk,rfl,rfl,nV,qm,sn,cy⟩:=hrel;have s:=ag (aN qm (aN sn cy));have tz:=ag (show eV 0 wr (.slice dQ m.length dL) m from cu M.o.1 λg aq=>by obtain⟨cur,hc⟩:=b0 M.o.1 aq;exact s.o.2.2.other g (aU hc) (M.o.2.1 g aq))
  by_cases U:k<m.length
  .obtain⟨g,rfl⟩:=Vh 0 (by omega);obtain⟨cR,av,aD,cY⟩:=eV.cells tz.o k U;have jY:(0:Int)<=(k:Int):=by simp
   have dK:(k:Int)<(m.length:Int):=by omega
   have aJ:=aV wr (.cells #[A m[k].op.id.1,A m[k].op.id.2,A m[k].op.cb,.iface m[k].t m[k].v] 210);have cg:=ag (s.o.1.ak aJ);have W:=ag (show(kk n (m.take k)).length=n.length+k by rw[Vg,gU];omega);have rM:=ag (show q6 (kk n (m.take k))/\∀o∈kk n (m.take k),o.op.id≠m[k].op.id from by
    have L:=M.o.2.2.2;have nz:(m.take k++n).Sublist (m++n):=List.Sublist.append (Y7 _ _) (List.Sublist.refl _);refine⟨Qw _ _ y.o.2.2 ((nz.map _).nodup L),λo al e=> ?_⟩;have N:=(EY _ _).mem_iff.1 al;have mD:m=m.take k++m[k]::m.drop (k+1):=by simp
    rw[mD,kr,ga,nI]at L;obtain⟨_,cx,pr⟩:=L;rcases dZ.1 N with N|N
    .exact pr _ (dF.2 ⟨o,N,rfl⟩) _ (dF.2 ⟨m[k],p3 _ kH,rfl⟩) e
    rw[p5,ip,oN]at cx;exact cx.1 (dF.2 ⟨o,Gc _ N,e⟩))
   obtain⟨p,P⟩:∃p,p=ur m[k] (kk n (m.take k)):=⟨_,rfl⟩;have hz:p<=n.length+k:=by rw[P,<-W.o];exact Vf _ _
   have du:=ag (akE cg.o.bb cg.o.row m[k] p (by rw[W.o];omega) (λi hi Vi=>als (abK _ _ i hi (P▸Vi))) (λi hi Vi=>alt (abM _ _ rM.o.1 rM.o.2 i hi (P▸Vi))) (by rw[W.o];omega));have ew:=ag P;clear P;obtain⟨u,I2⟩:∃u,u=min q p:=⟨_,rfl⟩;go_wp2_with fail
   refine du.o.mono ?_;rintro e w2 ⟨vo2,rfl,wx,iW,lj,jD⟩;have X:=ag (show ∃Q,sJ w2 d b a vo2 Y (kk n (m.take (k+1))) u E f h S Q I D0 D/\dp z Q (wr.alloc (.cells #[A m[k].op.id.1,A m[k].op.id.2,A m[k].op.cb,.iface m[k].t m[k].v] 210)) w2 from by rw[abR U,I2,ew.o];refine cg.o.insert (by rw[W.o];omega) jD wx (by rw[Ve,<-ew.o];omega) lj ?_;exact(M.o.2.2.1 m[k] (dB U)).fW (λj R=>(aJ.block j (s.o.1.cI j R)).trans (s.o.2.2.other j (y.o.1.cI j R) (y.o.1.e0 j R))) (λ_ x=>x))
   obtain⟨Q,hX2,qs⟩:=X.o;have X:=ag (aN hX2 (s.o.2.2.trans (qs.before aJ)));have Mq:(kk n (m.take (k+1))).take u=n.take u:=by rw[abR U,abO (by rw[<-ew.o];omega)];have :=kq (List.take u) s.o.2.1;rwa [Gb,Gb,show min u q=u by omega]at this
   have xh:=Mq;go_wp2;rw[show min (q:Int) (p:Int)=((u:Nat):Int) by omega];go_roundw
   case rel=>exact⟨k+1,u,vo2,Q,by omega,by go_num,rfl,by omega,X.o.1,xh,X.o.2⟩
   case measure=>simp[intOf];omega
  have iC:k=m.length:=by omega
  subst iC;rw[wv]at s;have cr:=ag (Vg n m);by_cases heq:q<n.length
  .have cE:(a+q)/b<E.length:=by rw[y.o.2.1];have :=atK (c:=b) (show a+q<=a+n.length by omega);omega
   have bf:=alw s.o.1 cE;have LG:=abQ (e:=q) s.o.1.rR s.o.1.tt;go_wp2_with fail
   refine bf.mono ?_;rintro e w2 ⟨vr2,rs2,d2,bo2,fx,Q,ia,rfl,Br,k7,qs⟩;have ev:=ag (abw Br (by rw[k7,LG.2]));have Bs:=s.o.2.2.trans qs;go_wp2_with fail
   refine ev.o.mono ?_;rintro e w3 ⟨⟨r,rfl⟩,Vj,Vk,ut,Mn,Mr,xi,Ms⟩;have B:=ag (aN Mr (aN xi (Bs.trans Ms)));go_wp2;go_end0
   exact⟨⟨_,rfl⟩,C,Vj,Vk,d2,bo2,fx,ut,Mn,B.o.1,B.o.2.1,B.o.2.2⟩
  obtain rfl:q=n.length:=by omega
  have dH:=s.o.1.g (λj R=>alv y.o.2.1 R) (by rw[<-Cd,s.o.2.1];have :=y.o.1.did;rwa [<-Cd]at this)
  have ev:=ag (abw dH y.o.2.1);go_wp2_with fail
  refine ev.o.mono ?_;rintro e w3 ⟨⟨r,rfl⟩,Vj,Vk,ut,Mn,Mr,xi,Ms⟩;have B:=ag (aN Mr (aN xi (s.o.2.2.trans Ms)));go_wp2;go_end0
  exact⟨⟨_,rfl⟩,C,Vj,Vk,f,h,S,ut,Mn,B.o.1,B.o.2.1,B.o.2.2⟩
end
section
open Go.RowKit Tryz
structure Mt (t:TypeId):Prop where
 eql:∀(x y:PId) (W:World),(Op.equal t (dC x) (dC y)).run prog W=.ok (fv x.1 x.2 y.1 y.2) W
 check:∀(b:Bool) (x:PId) (W:World),(Instr.checkKey b 10000 t (dC x)).run prog W=.ok () W
 q2:∃EZ,prog.underlying t=some (.struct EZ)
theorem abS {t:TypeId} (a:Mt t) {ν:Type} (c:ν->Value) (x:PId) (W:World):∀(b:List MapEntry) (m:List (PId×ν)) (i:Nat),mQ dC c b m->
  (Instr.findAsking t (dC x) b i).run prog W=.ok ((lR x m i).map λr=>(r.1,c r.2)) W
 |[],[],i,_=>rfl
 |[],p::m,i,h=>by simp[mQ]at h
 |e::b,[],i,h=>by simp[mQ]at h
 |e::b,p::m,i,h=>by
  unfold mQ at h;simp only[ip,SC,OC]at h;obtain⟨⟨f,g⟩,j⟩:=h;rw[Instr.findAsking,f];have :=a.eql x p.1 W;simp only[mL,this,oK,Ti];unfold lR;by_cases d:x=p.1
  .simp[d,g]
  simp only[d,YG,fM,r8];exact abS a c x W b m (i+1) j
theorem Mt.key{t}(a:Mt t):AC PId t dC:=⟨a.check,λc x W b m h=>by
 obtain⟨d,f⟩:=a.q2;unfold Instr.findKey;rw[mL,xM f,oK];cases b with
 |nil=>
  have :m=[]:=by unfold mQ at h;simp_all
  subst this;rfl
 |cons e b=>have g:Instr.findNow (TypeDesc.struct d) (dC x) (e::b) 0=none:=rfl;rw[g];exact abS a c x W _ m 0 h,Zy⟩
theorem aly:Mt 371:=by
 refine⟨λx y W=> ?_,λb x W=> ?_,⟨_,underlying371⟩⟩
 .unfold dC;show(Op.equalIn (9998+1+1) 371 _ _).run prog W=_;go_simp;unfold fv;by_cases c:x.1=y.1<;>by_cases d:x.2=y.2<;>simp[c,d]
 unfold dC;have e:∀(n:Nat) (a:Int),(Instr.checkKey b (n+1) 3 (A a)).run prog W=.ok () W:=λn a=>by rw[Instr.checkKey];go_simp
 rw[Instr.checkKey];go_simp
theorem alz:Mt 164:=by
 refine⟨λx y W=> ?_,λb x W=> ?_,⟨_,underlying164⟩⟩
 .unfold dC;show(Op.equalIn (9998+1+1) 164 _ _).run prog W=_;go_simp;unfold fv;by_cases c:x.1=y.1<;>by_cases d:x.2=y.2<;>simp[c,d]
 unfold dC;have e:∀(n:Nat) (a:Int),(Instr.checkKey b (n+1) 3 (A a)).run prog W=.ok () W:=λn a=>by rw[Instr.checkKey];go_simp
 rw[Instr.checkKey];go_simp
theorem Qx:AC PId 371 dC:=aly.key
theorem Vl:AC PId 164 dC:=alz.key
def Bv (n:Int):Value:=A n
theorem alA(b:Bool)(x:Int)(W:World):(Instr.checkKey b 10000 3 (Bv x)).run prog W=.ok () W:=by rw[Instr.checkKey];go_simp
theorem abT {ν:Type} (b:ν->Value) (x:Int):∀(a:List MapEntry) (m:List (Int×ν)) (i:Nat),mQ Bv b a m->Instr.findNow (.int .i64) (Bv x) a i=some ((lR x m i).map λr=>(r.1,b r.2))
 |[],[],i,_=>rfl
 |[],p::m,i,h=>by simp[mQ]at h
 |e::a,[],i,h=>by simp[mQ]at h
 |e::a,p::m,i,h=>by
  unfold mQ at h;simp only[ip,SC,OC]at h;obtain⟨⟨c,j⟩,d⟩:=h;unfold Instr.findNow;have f:Instr.sameNow (.int .i64) (Bv x) e.key=some (decide (x=p.1)):=by rw[c];rfl
  rw[f];unfold lR;by_cases g:x=p.1
  .simp_all
  simp only[g,YG,fM];exact abT b x a m (i+1) d
theorem abU:AC Int 3 Bv:=⟨alA,λa x W b m h=>by unfold Instr.findKey;rw[mL,xM underlying3,oK,abT a x b m 0 h];rfl,λx=>by simp[Bv,Instr.sameBits]⟩
end
section
open Go.RowKit Tryz
attribute [local go_sem ↓] Go.wp_at_zero Go.wp_at_succ
variable {a c h l n q r:Nat}{b:List ay}{d f:Nat->Prop}{e:List (PId×ay)}{i:Nat->Int}{j m:World}
def nA (N:Nat) (a:Nat->Int):Array Value:=((List.range N).map λi=>A (a i)).toArray
theorem Hl{ai:Nat->Int}(h:a<c):(nA c ai)[a]?=some (A (ai a)):=by simp[nA,h]
theorem abV(m:Int):(nA a i).setIfInBounds c (A m)=nA a (upd i c m):=by
 apply afN;intro b;rw[F5];by_cases e:c=b
 .subst e;by_cases d:c<a
  .simp[nA,d,upd]
  simp[nA,d]
 rw[a7 e];by_cases d:b<a
 .simp[nA,d,upd,eE e]
 simp[nA,d]
def Vm (o:ay):Value:=.agg #[A o.op.id.1,A o.op.id.2,A o.op.cb,.iface o.t o.v]
def Qy (N:Nat) (g:Nat):Value:=aa g N N
structure gm where
 fP:Nat
 ah:Nat
 j0:Nat
 hX:Nat
 su:Nat
 d:Nat
 aF:Nat
 be:Nat
 c5:Value
 cl:Value
 rs:List hV
 D0:k8
 D:cZ
 fX:List (Int×Nat)
 dq:Nat->List Int
 xj:Nat->Prop
variable {k:gm}
def JF (q a:gm):Prop:=a.D0=q.D0/\a.fX=q.fX/\a.dq=q.dq
structure dU (w:World) (bd:Nat) (F I:Nat->Prop) (N sp c:Nat) (gt:Int) (ai:Nat->Int) (ar:List ay) (bt:List (PId×ay)) (q:gm):Prop where
 bb:w.heap[bd]?=some (.cells #[A c,A gt,aa q.fP N N,Z q.ah,.map (some q.j0),.map (some q.hX)] 109)
 cF:w.heap[q.fP]?=some (.cells (nA N ai) 3)
 kB:iP w q.ah sp q.su q.c5 q.cl ar ar.length q.rs q.d q.aF q.be q.xj I q.D0 q.D
 iY:q.rs.length=(q.su+ar.length)/sp+1
 j1:q6 ar
 E0:∃es aX,isMap dC Vm w q.j0 bt es aX
 E1:∀p∈bt,rQ w I (.iface p.2.t p.2.v) p.2.op.chg
 E2:∃es aX,isMap Bv (Qy N) w q.hX q.fX es aX
 zK:∀p∈q.fX,((q.dq p.2).length=N/\w.heap[p.2]?=some (.cells ((q.dq p.2).map λx=>A x).toArray 3 (0,0)))/\p.2≠q.fP/\F p.2/\¬q.xj p.2
 hc:c<N
 hN:N<=4
 cc:F bd
 gK:F q.fP
 q8:F q.j0
 yt:F q.hX
 ti:∀k,q.xj k->F k
 qt:¬q.xj bd
 E3:¬q.xj q.fP
 E4:¬q.xj q.j0
 Hm:¬q.xj q.hX
 Hn:q.j0≠q.hX
 lt:∀k,F k->k<w.heap.size
 e0:∀k,I k->¬F k
theorem dU.hA{w e F I N sp c gt ai f g q}{b:World}(h:dU w e F I N sp c gt ai f g q)(i:w.heap.size<=b.heap.size)(a:∀k,F k->b.heap[k]?=w.heap[k]?)(j:∀k,I k->b.heap[k]?=w.heap[k]?):dU b e F I N sp c gt ai f g q:=by
 obtain⟨l,m,n⟩:=h.E0;obtain⟨o,r,s⟩:=h.E2;refine⟨by rw[a _ h.cc];exact h.bb,by rw[a _ h.gK];exact h.cF,h.kB.hA i (λk hF=>a k (h.ti k hF)) j,h.iY,h.j1,⟨l,m,n.hU (a _ h.q8)⟩,λp d=>(h.E1 p d).fW j (λ_ x=>x),⟨o,r,s.hU (a _ h.yt)⟩,λp d=> ?_,h.hc,h.hN,h.cc,h.gK,h.q8,h.yt,h.ti,h.qt,h.E3,h.E4,h.Hm,h.Hn,λk hF=>c0 (h.lt k hF) i,h.e0⟩;obtain⟨⟨t,u⟩,v,y,z⟩:=h.zK p d
 simp_all
theorem dU.ak{w c gt ai q}{w':World}(g:dU w a d f h l c gt ai b e q)(i:J w w'):dU w' a d f h l c gt ai b e q:=g.hA i.size (λk j=>i.block k (g.lt k j)) (λk j=>i.block k (g.kB.cI k j))
theorem dU.cells{w sp c gt ai}(g:dU w a d f h sp c gt ai b e k):w.cell? (H a)=some (A c)/\w.cell? (K a 1)=some (A gt)/\w.cell? (K a 2)=some (aa k.fP h h)/\w.cell? (K a 3)=some (Z k.ah)/\w.cell? (K a 4)=some (.map (some k.j0))/\w.cell? (K a 5)=some (.map (some k.hX)):=by refine⟨?_,?_,?_,?_,?_,?_⟩<;>simp[World.cell?,g.bb]
theorem dU.Ho{c gt ai}(g:dU j l d f h n c gt ai b e k)(i:a<h):j.cell? (K k.fP a)=some (A (ai a)):=by have :=Hl (ai:=ai) i;simp[World.cell?,g.cF,this]
theorem dU.cI{w a F I N sp c gt ai b d q}(h:dU w a F I N sp c gt ai b d q):∀k,I k->k<w.heap.size:=h.kB.cI
theorem dU.rg{gt}(g:dU j a d f c h l gt i b e k):a≠k.fP:=λm=>by have n:=g.bb;rw[m]at n;exact absurd (cQ n g.cF) (by decide)
theorem dU.count {gt:Int} {N:Nat->Int} (g:dU m a d f c l h gt N b e k) {F:Int} (r:aR (λn=>n=a\/n=k.fP) m j) (P:j.heap[a]?=some (.cells #[A h,A F,aa k.fP c c,Z k.ah,.map (some k.j0),.map (some k.hX)] 109)) (Q:j.heap[k.fP]?=some (.cells (nA c i) 3)):dU j a d f c l h F i b e k:=by
 have s:=λn hF R S=>r.other n (g.lt n hF) λy=>y.elim R S
 have I:=λn z=>r.other n (g.cI n z) λy=>by
  rcases y with rfl|rfl
  .exact g.e0 _ z g.cc
  exact g.e0 _ z g.gK
 obtain⟨t,u,B⟩:=g.E0;obtain⟨U,W,C⟩:=g.E2;have v:∀(q:Nat) (t:Array MapEntry) (u:Nat),m.heap[q]?=some (.map t u)->q≠a/\q≠k.fP:=λq t u w=>by
  constructor
  .rintro rfl;rw[g.bb]at w;cases w
  rintro rfl;rw[g.cF]at w;cases w
 refine⟨P,Q,g.kB.hA r.size (λn hF=>s n (g.ti n hF) (λo=>g.qt (o▸hF)) (λo=>g.E3 (o▸hF))) I,g.iY,g.j1,⟨t,u,B.hU (s _ g.q8 (v _ _ _ B.bb).1 (v _ _ _ B.bb).2)⟩,λp D=>(g.E1 p D).fW I (λ_ x=>x),⟨U,W,C.hU (s _ g.yt (v _ _ _ C.bb).1 (v _ _ _ C.bb).2)⟩,λp D=> ?_,g.hc,g.hN,g.cc,g.gK,g.q8,g.yt,g.ti,g.qt,g.E3,g.E4,g.Hm,g.Hn,λn hF=>c0 (g.lt n hF) r.size,g.e0⟩;obtain⟨⟨X,E⟩,L,M,Y⟩:=g.zK p D;refine⟨⟨X,?_⟩,L,M,Y⟩;rw[s _ M (λo=> ?_) L]
 .exact E
 rw[o]at E;exact absurd (cQ E g.bb) (by decide)
theorem dU.abW{I gt Q C E F z L M v}(g:dU m h f I l a n gt i Q e k)(s:dp k.xj v m j)(N:iP j k.ah a c E F b b.length z q r C v I L M)(R:z.length=(c+b.length)/a+1)(S:q6 b):
  ∃P,dU j h P I l a n gt i b e {k with su:=c,d:=q,aF:=r,be:=C,c5:=E,cl:=F,rs:=z,D0:=L,D:=M,xj:=v}/\dp f P m j:=by
 have w:=λo hF t=>s.other o (g.lt o hF) t
 have y:∀o,f o->¬k.xj o->¬v o:=λo hF t U=>(s.sub o U).elim t λx=>by have :=g.lt o hF;omega
 obtain⟨W,X,Y⟩:=g.E0;obtain⟨kg,kh,t⟩:=g.E2;refine⟨λo=>f o\/(m.heap.size<=o/\o<j.heap.size),⟨by rw[w _ g.cc g.qt];exact g.bb,by rw[w _ g.gK g.E3];exact g.cF,N,R,S,⟨W,X,Y.hU (w _ g.q8 g.E4)⟩,λp B=>(g.E1 p B).fW (λo u=>s.other o (g.cI o u) (g.kB.e0 o u)) (λ_ x=>x),⟨kg,kh,t.hU (w _ g.yt g.Hm)⟩,λp B=> ?_,g.hc,g.hN,.inl g.cc,.inl g.gK,.inl g.q8,.inl g.yt,λo hF=>(s.sub o hF).imp (g.ti o) λx=>⟨x,N.lt o hF⟩,y _ g.cc g.qt,y _ g.gK g.E3,y _ g.q8 g.E4,y _ g.yt g.Hm,g.Hn,λo hF=>hF.elim (λx=>c0 (g.lt o x) s.size) (λx=>x.2),λo u hF=>hF.elim (g.e0 o u) (λx=>by have :=g.cI o u;omega)⟩,⟨s.os,s.tape,s.output,s.size,λo c9 hF=>s.other o c9 λx=>hF (g.ti o x),λo hF=>hF.imp id (·.1)⟩⟩;obtain⟨⟨ax,a8⟩,cP,gi,hy⟩:=g.zK p B
 simp_all
def o7 (gt:Int) (a:List ay):Int:=a.foldl (λg x=>max g x.op.id.1) gt
def hasAll (a:Nat->Int) (b:List ay):Nat->Int:=b.foldl (λh x=>upd h x.op.id.2.toNat x.op.cb) a
theorem alB{gt:Int}(c:a<b.length):o7 gt (b.take (a+1))=max (o7 gt (b.take a)) b[a].op.id.1:=by rw[lx c];unfold o7;rw[Ax];rfl
theorem alC(c:a<b.length):hasAll i (b.take (a+1))=upd (hasAll i (b.take a)) b[a].op.id.2.toNat b[a].op.cb:=by rw[lx c];unfold hasAll;rw[Ax];rfl
theorem abX {gt:Int} (h:dU j a d f c l n gt i b e k) (w:List ay) (cS:((w++b).map λo=>o.op.id).Nodup) (hlen:b.length+w.length<=300) (P:∀x∈w,0<=x.op.id.2/\x.op.id.2<c) (v:Value) (aO:eV 0 j v w) (yr:∀m,v.ownBlock=some m->¬d m) (hc:∀x∈w,rQ j f (.iface x.t x.v) x.op.chg):
  O 142 #[Z a,v] j λq w'=>(∃r,q=ad r)/\∃Q fY,dU w' a Q f c l n (o7 gt w) (hasAll i w) (kk b w) e fY/\JF k fY/\dp d Q j w':=by
 obtain⟨dQ,dL,rfl,AR,zJ,ys⟩:=bz aO;unfold maxLen at zJ;have Bw:=h.hN;have B:=ag h;have D:=ag (aN aO (aN yr (aN hc (aN cS P))));have Vh:=ag ys;go_enter func142,ntmps142;go_wp2_with fail
 go_loopw [8] (λp wr=>∃m,m<=w.length/\p=A (m:Nat)/\dU wr a d f c l n (o7 gt (w.take m)) (hasAll i (w.take m)) b e k/\aR (λm=>m=a\/m=k.fP) j wr) (λp _=>w.length-(intOf p).toNat)
 case atStart=>exact⟨0,b6 _,rfl,B.o,aR.cL (ca _ _)⟩
 case round=>
  obtain⟨m,C,rfl,bU,E⟩:=hrel;have y:=ag (aN bU E);have tz:=ag (show eV 0 wr (.slice dQ w.length dL) w from cu D.o.1 λg aq=>by
   obtain⟨cur,hc⟩:=b0 D.o.1 aq;exact y.o.2.other g (aU hc) λM=>by
    rcases M with rfl|rfl
    .exact D.o.2.1 _ aq B.o.cc
    exact D.o.2.1 _ aq B.o.gK)
  by_cases R:m<w.length
  .obtain⟨g,rfl⟩:=Vh.o 0 (by omega);obtain⟨cR,av,aD,cY⟩:=eV.cells tz.o m R;have jY:(0:Int)<=(m:Int):=by simp
   have dK:(m:Int)<(w.length:Int):=by omega
   obtain⟨lh,fH⟩:=D.o.2.2.2.2 w[m] (dB R);obtain⟨x,S⟩:∃x,x=w[m]:=⟨_,rfl⟩;rw[<-S]at cR av aD cY lh fH;obtain⟨z,P⟩:∃z:Nat,x.op.id.2=(z:Int):=⟨x.op.id.2.toNat,by omega⟩;have Hr:z<c:=by omega
   obtain⟨bw,bm,bq,ce,eN,j2⟩:=y.o.1.cells;have uu:=y.o.1.Ho Hr;obtain⟨gk,oC⟩:∃gk,gk=o7 gt (w.take m):=⟨_,rfl⟩;obtain⟨U,kJ⟩:∃U,U=hasAll i (w.take m):=⟨_,rfl⟩;have hG1:o7 gt (w.take (m+1))=max gk x.op.id.1:=by rw[alB R,oC,S]
   have hH1:hasAll i (w.take (m+1))=upd U z x.op.cb:=by rw[alC R,kJ,<-S,P];rfl
   rw[<-oC]at bm y;rw[<-kJ]at uu y;rw[P]at av;have wK:=ag (aN hG1 hH1);clear oC kJ S;obtain⟨X,n1⟩:∃X,X=max gk x.op.id.1:=⟨_,rfl⟩;have qR:=y.o.1.lt _ y.o.1.cc;have dG:=y.o.1.lt _ y.o.1.gK;have Y:=y.o.1.rg;have j8:=cV y.o.1.bb 1;have cg:=ag (ak8 (u:=A X) y.o.1.bb);obtain⟨I,N⟩:∃I,I=wr.setCell (K a 1) (A X):=⟨_,rfl⟩;rw[<-N]at cg;have Bd:I.heap.size=wr.heap.size:=by rw[N];simp
   have iD:=show aR (λm=>m=a) wr I by rw[N];exact aR.it _ rfl
   have Vo:(0:Int)<=(z:Int):=by simp
   have L9:(z:Int)<(c:Int):=by omega
   have hwn:wr.heap.size≠a:=by omega
   have Je:wr.heap.size≠k.fP:=by omega
   go_wp2_with fail
   go_region
   go_wp2_with fail
   rw[<-n1,<-N];have HGN:=ag n1;clear bm j8 n1 N;have d2:I.cell? (K a 2)=some (aa k.fP c c):=by simp[World.cell?,cg.o]
   have eK:=ag ((iD.other k.fP dG (eE Y)).trans y.o.1.cF);have d4:=iD.cell (eE Y) uu;have Ll:=cV eK.o z;obtain⟨n0,dc,cx,pr⟩:=Bh I (A x.op.id.1) (A z) (A x.op.cb) (.iface x.t x.v) 210;rw[Bd]at dc cx;obtain⟨F,qp⟩:∃F,I.setCell (K k.fP z) (A x.op.cb)=F:=⟨_,rfl⟩;have abY:F.heap.size=wr.heap.size:=by rw[<-qp,<-Bd];simp
   have kz:=ag (show aR (λm=>m=k.fP) I F by rw[<-qp];exact aR.it _ rfl);have f2:=kz.o.cell Y d2;obtain⟨U3,q1,h4,n5⟩:=Bh F (A x.op.id.1) (A z) (A x.op.cb) (.iface x.t x.v) 210;rw[abY]at q1 h4;go_region_held3 (λW=>W.cell? (K a 2)=some (aa k.fP c c)/\W.cell? (V wr 1)=some (A z)/\W.cell? (V wr 2)=some (A x.op.cb)) (go_keep) (fail)
   go_wp2;go_roundw
   case rel=>
    have ev:=show F.heap[k.fP]?=some (.cells (nA c (upd U z x.op.cb)) 3) by rw[<-qp,setRow eK.o,abV]
    have c7:=(kz.o.other a (by omega) Y).trans cg.o;have bl:J F (F.alloc (.cells #[A x.op.id.1,A z,A x.op.cb,.iface x.t x.v] 210)).drew.drew:=(aV F _).drew.drew;have jD:=(iD.mono (S':=λm=>m=a\/m=k.fP) λm C=>.inl C).trans (kz.o.mono λm C=>.inr C);refine⟨m+1,by omega,by go_num,?_,y.o.2.trans (jD.trans (aR.cL bl))⟩;rw[wK.o.1,wK.o.2,<-HGN.o];exact(y.o.1.count jD c7 ev).ak bl
   case measure=>simp[intOf];omega
  have iC:m=w.length:=by omega
  subst iC;rw[wv]at y;obtain⟨bw,bm,bq,ce,eN,j2⟩:=y.o.1.cells;have dS:=alx y.o.1.kB y.o.1.iY y.o.1.j1 w D.o.2.2.2.1 hlen (.slice dQ w.length dL) tz.o (λm C hF=>D.o.2.1 m C (B.o.ti m hF)) (λx az=>(D.o.2.2.1 x az).fW (λs aB=>y.o.2.other s (B.o.cI s aB) λM=>by
   rcases M with rfl|rfl
   .exact B.o.e0 _ aB B.o.cc
   exact B.o.e0 _ aB B.o.gK) (λ_ x=>x))
  go_wp2_with fail
  refine dS.mono ?_;rintro q w3 ⟨⟨r,rfl⟩,mj,vr',hW,cz,jc,jd,Hp,D',Mr,xi,Ms⟩;have o3:=aN Mr (aN xi Ms);go_wp2;go_end0
  obtain⟨Q,JG,L⟩:=y.o.1.abW o3.2.2 o3.1 o3.2.1 (Qw w b y.o.1.j1 D.o.2.2.2.1);have E:=y.o.2;refine⟨⟨_,rfl⟩,Q,_,JG,⟨rfl,rfl,rfl⟩,?_⟩;exact⟨L.os.trans E.os,L.tape.trans E.tape,L.output.trans E.output,cd E.size L.size,λm C hF=>(L.other m (c0 C E.size) hF).trans (E.other m C λM=>by
   rcases M with rfl|rfl
   .exact hF B.o.cc
   exact hF B.o.gK),λm C=>(L.sub m C).imp id λx=>cd E.size x⟩
theorem iP.Db{f g i m F D0 D}{I':Nat->Prop}(e:iP j a c h f g b l i n r m F d D0 D)(p:∀k,d k->I' k)(s:∀k,I' k->k<j.heap.size)(t:∀k,I' k->¬F k):iP j a c h f g b l i n r m F I' D0 D:=
 ⟨e.bb,e.row,λo u=>(e.chg o u).fW (λ_ _=>rfl) p,e.mem,e.rR,e.sH,e.tt,e.le,e.len,e.sI,e.mx,e.q,e.own,e.kj,e.did,e.maps,e.pG,e.qh,e.q5,e.cc,e.fd,e.pH,e.pI,e.lt,t,s⟩
theorem dU.Db{w a F I N b c gt d e f q}{I':Nat->Prop}(h:dU w a F I N b c gt d e f q)(g:∀k,I k->I' k)(j:∀k,I' k->k<w.heap.size)(i:∀k,I' k->¬F k):dU w a F I' N b c gt d e f q:=
 ⟨h.bb,h.cF,h.kB.Db g j λk l hF=>i k l (h.ti k hF),h.iY,h.j1,h.E0,λp m=>(h.E1 p m).fW (λ_ _=>rfl) g,h.E2,h.zK,h.hc,h.hN,h.cc,h.gK,h.q8,h.yt,h.ti,h.qt,h.E3,h.E4,h.Hm,h.Hn,h.lt,i⟩
theorem dU.set{sp gt q}(m:dU j a d f c sp h gt i b e q){g:Nat}(u:Value)(r:¬d g)(s:¬f g):dU (j.setCell (K g l) u) a d f c sp h gt i b e q:=by have p:aR (λk=>k=g) j (j.setCell (K g l) u):=aR.it _ rfl;exact m.hA p.size (λk o=>p.other k (m.lt k o) λn=>r (n▸o)) (λk o=>p.other k (m.cI k o) λn=>s (n▸o))
theorem Bx {I:Nat->Prop} {sp:Nat} {gt:Int} (g:dU j a f I c sp h gt i b e k):
  O 48 #[Z a] j λl m=>l=ad (Z k.d)/\J j m:=by
 obtain⟨o,p,q,r,eN,s⟩:=g.cells;go_enter func48,ntmps48;go_wp2_with fail
 refine(akm (sp:=sp) (su:=k.su) (by have :=g.kB.bb;exact this)).mono ?_;rintro l t ⟨rfl,n⟩;go_wp2;go_ret
 exact⟨rfl,n⟩
theorem Mu {gt:Int} (h:dU j c d f l n a gt i b e k) (g:Nat) (p:g<=10):
  O 60 #[Z c,A g] j λm w'=>m=ad (.bool (decide (i a+g<=60)))/\J j w':=by
 obtain⟨q,r,s,t,eN,u⟩:=h.cells;have v:=h.Ho h.hc;have w:(0:Int)<=(a:Int):=by simp
 have x:(a:Int)<(l:Int):=by have :=h.hc;omega
 have y:=h.hc;have z:=h.hN;have o:decide (i a<=60-(g:Int))=decide (i a+g<=60):=by congr 1;apply propext;omega
 go_enter func60,ntmps60;go_wp2_with fail
 go_region_held3 (λW=>W.cell? (H c)=some (A a)/\W.cell? (K c 2)=some (aa k.fP l l)/\W.cell? (K k.fP a)=some (A (i a))) (go_keep) (fail)
 all_goals go_wp2
 all_goals go_ret
 all_goals
  rw[<-o,mN (60-(g:Int)) (by omega)];exact⟨rfl,(gb j)⟩
def lH (c:Nat) (gt:Int) (a:Nat->Int) (chg:mY) (t:TypeId) (v:Value):ay:=⟨⟨(gt+1,(c:Int)),a c+1,chg⟩,t,v⟩
theorem abZ{x:ay}:∀{l:List ay},(∀o∈l,gj o.op.id x.op.id=true)->m6 x l=l++[x]
 |[],_=>rfl
 |o::l,h=>by unfold m6;rw[bn (h o kH),abZ λy a=>h y (jk _ a)];rfl
theorem Qz {gt:Int} (h:dU j c f d l n a gt i b e k) (oT:0<=gt/\gt<=100000) (hhc:0<=i a/\i a<=1000) (hold:∀o∈b,o.op.id.1<=gt) (hl:b.length<300)
  (t:TypeId) (v:Value) (w:mY) (B:rQ j d (.iface t v) w):
  O 91 #[Z c,.iface t v] j λm w'=>m=ad (.agg #[A (gt+1),A a])/\∃z C,dU w' c z d l n a (gt+1) (upd i a (i a+1)) (b++[lH a gt i w t v]) e C/\JF k C/\dp f z j w':=by
 obtain⟨D,bm,Q,ce,eN,j2⟩:=h.cells;clear ce eN j2;have E:=h.Ho h.hc;have qa:(0:Int)<=(a:Int):=by simp
 have jT:(a:Int)<(l:Int):=by have :=h.hc;omega
 have gn:=h.hc;have qR:=h.lt _ h.cc;have dG:=h.lt _ h.gK;have rG:=h.rg;have Bw:=h.hN;obtain⟨s,F⟩:∃s,s=gt+1:=⟨_,rfl⟩;obtain⟨u,I⟩:∃u,u=i a+1:=⟨_,rfl⟩;have Vp:IntKind.i64.wrap (gt+1)=s:=by rw[F];exact mN _ (by omega)
 have vv:IntKind.i64.wrap (i a+1)=u:=by rw[I];exact mN _ (by omega)
 have L:=ag ((aV j (af 0 0)).alloc (by simp) (af s a));have R:=ag (L.o.alloc (by simp;omega) (.cells #[A s,A a,A u,.iface t v] 210)).drew.drew;have Dc:=ag (show(((j.alloc (af 0 0)).alloc (af s a)).alloc (.cells #[A s,A a,A u,.iface t v] 210)).drew.drew.heap[j.heap.size+2]?=some (.cells #[A s,A a,A u,.iface t v] 210) by have :=bZ ((j.alloc (af 0 0)).alloc (af s a)) (.cells #[A s,A a,A u,.iface t v] 210);rw[show((j.alloc (af 0 0)).alloc (af s a)).heap.size=j.heap.size+2 by simp]at this;exact this)
 have S:∀o∈b,gj o.op.id (lH a gt i w t v).op.id=true:=λo U=>(rU _ _).2 (.inl (by have :=hold o U;simp only[lH];omega))
 have Vq:=ag (abX (h.ak R.o) [lH a gt i w t v] (by
   simp only[List.singleton_append,ip,oN];refine⟨λhm=> ?_,?_⟩
   .obtain⟨o,U,he⟩:=dF.1 hm;have :=S o U;rw[he,yq]at this;cases this
   .have :=h.j1;unfold q6 at this;refine ry.2 (this.imp λ{p q} c8 m=> ?_);rw[m,yq]at c8;cases c8) (by simp;omega) (λx B=>by
   obtain rfl:=fR.1 B;exact⟨qa,jT⟩) (aa (j.heap.size+2) 1 1) (by
   refine⟨rfl,.inr ⟨j.heap.size+2,1,_,rfl,b6 _,Dc.o,bW _,by unfold maxLen;omega,rfl,?_⟩⟩;simp[ec,lH,<-F,<-I]) (λg M hF=>by
   have :=h.lt g hF;simp[Value.ownBlock]at M;omega) (λx Hc=>by
   obtain rfl:=fR.1 Hc;exact B.fW (λg M=>R.o.block g (h.cI g M)) (λ_ y=>y)))
 have X:=ag (aN h.lt h.cI);have HIE:=ag (show kk b [lH a gt i w t v]=b++[lH a gt i w t v] from abZ S);have l9:=ag (aN F I);have By:=ag (show o7 gt [lH a gt i w t v]=gt+1 from(by show max gt (gt+1)=gt+1;omega));have Dd:=ag (show hasAll i [lH a gt i w t v]=upd i a (i a+1) from rfl);clear h B hold S F I oT hhc;have oW:=World.new_ne j (H c) D;have ma:=World.new_ne j (K k.fP a) E;have lj:j.heap.size+1≠c:=by omega
 have qS:j.heap.size+1≠k.fP:=by omega
 have iu:j.heap.size+2≠c:=by omega
 have E8:j.heap.size+2≠k.fP:=by omega
 go_enter func91,ntmps91;go_wp2_with fail
 go_region_held3 (λW=>W.cell? (H c)=some (A a)/\W.cell? (K c 1)=some (A gt)) (go_keep) (fail)
 go_wp2_with fail
 replace D:=ak L.o D;replace Q:=ak L.o Q;replace E:=ak L.o E;clear oW ma lj qS iu E8;have l2:=ag (show(((j.alloc (af 0 0)).alloc (af s a)).alloc (.cells #[A s,A a,A u,.iface t v] 210)).drew.drew.heap[j.heap.size]?=some (af 0 0) from(is _ _ (by simp;omega)).trans ((is _ _ (by simp)).trans (bZ j _)));have gh:=ag (show(((j.alloc (af 0 0)).alloc (af s a)).alloc (.cells #[A s,A a,A u,.iface t v] 210)).drew.drew.heap[j.heap.size+1]?=some (af s a) from(is _ _ (by simp)).trans (by have :=bZ (j.alloc (af 0 0)) (af s a);rw[show(j.alloc (af 0 0)).heap.size=j.heap.size+1 by simp]at this;omega))
 go_region_with (first |(go_at_call 142;refine Vq.o.mono ?_;rintro m w4 ⟨⟨r,rfl⟩,z,C,QC,hd4,tA⟩;have mV:=ag (aN QC hd4);have N:=ag tA;clear QC hd4 tA))
 all_goals(
  have Y:∀g,j.heap.size<=g->¬f g:=λg M hF=>by have :=X.o.1 g hF;omega
  have P:=(N.o.other _ (by simp;omega) (Y _ (bW _))).trans l2.o;have bo:=(N.o.other _ (by simp) (Y _ (by omega))).trans gh.o;obtain⟨fT,fm⟩:=bD P;obtain⟨Mv,lI⟩:=bD bo;have mf:=cV P;have JJ:=aU P;clear P bo Y D Q E)
 all_goals go_wp2
 all_goals refine ey (v:=.agg #[A s,A a]) (by simp[results,results91,go_sem,fT,fm]) rfl ?_
 all_goals(
  have zL:¬z j.heap.size:=λhF=>by
   rcases N.o.sub _ hF with h|h
   .have :=X.o.1 _ h;omega
   simp at h;omega
  have rT:¬d j.heap.size:=λc6=>by have :=X.o.2 _ c6;omega
  have bO:=mV.o.1;rw[HIE.o,By.o,Dd.o]at bO;exact⟨by rw[l9.o.1],z,C,(bO.set _ zL rT).set _ zL rT,mV.o.2,((N.o.before R.o).ym (bW _) _).ym (bW _) _⟩)
end
section
open Go.RowKit Tryz
attribute [local go_sem] Oper.semAt_some
theorem alE (f:Nat) (v:Option Nat) (a:List (PId×eP)) (w:World) (j:w.cell? (H f)=some (.map v)) (l:jX w v a) (m:a.length<=10000) (n:(a.map (·.1)).Nodup):
  O 137 #[.func (.func 164) #[] #[Z f],.func (.func 139) #[] #[]] w λe h=>∃u b,e=ad u/\b.Perm (a.map (·.1))/\oB b/\hR w.heap.size h u b/\J w h:=by
 go_enter func137,ntmps137;go_wp2_with fail
 refine(ajH f v a w j l m).mono ?_;rintro e z ⟨u,b,rfl,g,i,o⟩;have p:b.length<=10000:=by have :=g.length_eq;simp_all
 have c:=aN g (aN i o);go_wp2_with fail
 refine(alr i (g.nodup_iff.2 n) p).mono ?_;rintro e B ⟨rfl,q,r,s,t,x⟩;have d:=aN r (aN s (aN t x));go_wp2;go_ret
 exact⟨u,q,rfl,d.1.trans c.1,d.2.1,d.2.2.1,c.2.2.grown d.2.2.2 c.2.2.size (λk y=>(cX c.2.1 k y).1)⟩
theorem ab0 (v:Option Nat) (a:List (PId×eP)) (w:World) (h:jX w v a) (i:a.length<=10000) (j:(a.map (·.1)).Nodup):
  O 87 #[.map v] w λe c=>∃u b,e=ad u/\b.Perm (a.map (·.1))/\oB b/\hR w.heap.size c u b/\J w c:=by
 have d:J w (w.alloc (.cells #[.map v] 159)):=aV w _;go_enter func87,ntmps87;go_wp2_with fail
 refine(F9.1 (ajs Fence.wide 3 trivial rfl v w)).mono ?_;rintro e o ⟨rfl,rfl⟩;go_wp2_with fail
 refine(alE w.heap.size v a (w.alloc (.cells #[.map v] 159)) (by simp) (h.ak d) i j).mono ?_;rintro e p ⟨u,b,rfl,k,l,m,n⟩;have f:=aN m n;have g:=aN k l;go_wp2;go_ret
 exact⟨u,b,rfl,g.1,g.2,ii f.1 (by simp),bp d f.2⟩
theorem ab1 {w:World} {d r s:Nat} {j:List (PId×fr)} {k:List (PId×eG)} (h:cW w d r s j k) (b c f g:Int) (i:ByteArray) (t:(fN j k (b,c) i (f,g)).aK.length<=10000) (v:((fN j k (b,c) i (f,g)).aK.map (·.1)).Nodup):
  O 92 #[Z d,.agg #[A b,A c,.string i,A f,A g]] w λe n=>∃u l,e=ad u/\l.Perm ((fN j k (b,c) i (f,g)).aK.map (·.1))/\oB l/\hR w.heap.size n u l/\J w n:=by
 have o:=aV w (.cells #[A b,A c,.string i,A f,A g] 97);have x:=PW (h.ak o) b c f g i;have y:=λW (z:J w W)=>ab0 _ _ W ((h.at (b,c) i (f,g)).ak z) t v
 generalize fN j k (b,c) i (f,g)=a at *;go_enter func92,ntmps92;go_wp2_with fail
 refine x.mono ?_;rintro e I ⟨rfl,B⟩;have m:=bp o B;go_wp2_with fail
 refine(y _ m).mono ?_;rintro e L ⟨u,l,rfl,C,D,E,F⟩;have p:=aN E F;have q:=aN C D;go_wp2;go_ret
 exact⟨u,l,rfl,q.1,q.2,ii p.1 m.size,bp m p.2⟩
theorem alF{a:List (PId×eP)}(e:(a.map (·.1)).Nodup):∀{b:List PId},b.Perm (a.map (·.1))->∃d:List (PId×eP),d.Perm a/\d.map (·.1)=b:=by
 intro b c;refine⟨b.map λk=>(k,(bV k a).getD (0,(0,0))),?_,by rw[rz];exact Y2 _⟩;have f:(a.map (·.1)).map (λk=>(k,(bV k a).getD (0,(0,0))))=a:=by
  rw[rz]
  conv=>rhs;rw[<-Y2 a]
  refine F8 λp c=> ?_
  simp[Ha e c]
 have g:=c.map λk=>(k,(bV k a).getD (0,(0,0)))
 simp_all
theorem Vr {w:World} {d aF be:Nat} {n:List (PId×fr)} {p:List (PId×eG)} (h:cW w d aF be n p) (c f j l:Int) (m:ByteArray) (C:(fN n p (c,f) m (j,l)).aK.length<=10000) (v:((fN n p (c,f) m (j,l)).aK.map (·.1)).Nodup):
  O 49 #[Z d,.agg #[A c,A f,.string m,A j,A l]] w λe D=>∃u,∃b:List (PId×eP),e=ad u/\b.Perm (fN n p (c,f) m (j,l)).aK/\oB (b.map (·.1))/\qQ w.heap.size D u (b.map (·.2))/\J w D:=by
 have E:=aV w (.cells #[A c,A f,.string m,A j,A l] 97);have dS:=PW (h.ak E) c f j l m;have s:=λW (ah:J w W)=>(h.at (c,f) m (j,l)).ak ah
 generalize fN n p (c,f) m (j,l)=a at *;go_enter func49,ntmps49;go_wp2_with fail
 refine dS.mono ?_;rintro e w1 ⟨rfl,aA⟩;have x:=bp E aA;have hl:=Un (s _ x) (ty:=3);obtain⟨i0,om,hz0,hz1,hz2⟩:=qH (P:=prog) (e:=57) (z:=.agg #[A 0,A 0,A 0]) (size:=3) (bytes:=24) (by rfl);have F:=x.size;go_wp2_with (first
  |(at_make;refine wpList_make_own _ rfl (.const (A 0)) (.tmp 13) 53 rfl w.heap.size 57 i0 (.agg #[A 0,A 0,A 0]) 3 underlying53 om hz0 hz1 _ _ _ a.aK.length rfl rfl ?h1 ?h2 ?ax (F) ?_;(case h1=>rfl);(case h2=>rw[hz2];omega);(case ax=>unfold maxLen;omega);intro I hD fw;have ev:=ag fw)
  |fail)
 have L:=show J w I from x.grown ev.o F (λk M=>by cases M)
 refine(ab0 _ _ I (s _ L) C v).mono ?_;rintro e w3 ⟨u,ss,rfl,yu,ai,N,Q⟩;obtain⟨b,hpv,rfl⟩:=alF v yu;have q:=aN hpv ai;have R:=bp L Q;have li:=show qQ w.heap.size w3 (aa w1.heap.size 0 a.aK.length) [] from dI hD Q
 obtain⟨lW,lX,rfl,xV,ya,S⟩:=bz N;rw[c2]at xV S;have ox:=R.size;rw[c2];rw[<-q.1.length_eq]at C;have Vs:=ag q.1.length_eq;go_wp2;go_loopw [6,18] (λavS i wr=>∃k:Nat,k<=b.length/\i=A k/\qQ w.heap.size wr avS ((b.take k).map (·.2))/\fu wr (.slice lW b.length lX) (b.map (·.1))/\J w wr) (λ_ i _=>b.length-(intOf i).toNat)
 case atStart=>exact⟨0,b6 _,rfl,li,by have :=N.ids;rwa [c2]at this,R⟩
 case round=>
  obtain⟨k,M,rfl,y,U,r⟩:=hrel;by_cases t:k<b.length
  .obtain⟨g,rfl⟩:=S k t;obtain⟨bw,bm⟩:=fu.cells U (by simp) k (by simpa using t);have dG:g<wr.heap.size:=e7 wr _ bw;have X:=aV wr (af (b[k].1.1) (b[k].1.2));have Y:=(s _ (bp r X)).rH b[k].1.1 b[k].1.2;have db:=(s _ (bp r X).drew).rH b[k].1.1 b[k].1.2;have k1:bV (b[k].1.1,b[k].1.2) a.aK=some b[k].2:=Ha v (q.1.mem_iff.1 (dB t));rw[k1]at Y db;simp only[nb,qY]at Y db;have B:=y;have du:=U;have tb:=r.size;have jA:=r;go_wp2_with (at_builtin;go_must (refine aar rfl (.tmp 22) (.tmp 26) rfl w.heap.size _ ((b.take k).map (·.2)) rfl ?h1 (wr.heap.size+1) 1 b[k].2 rfl ?h2 ?a8 ?cP ?_;(case h1=>exact(B.alloc _).alloc _);(case h2=>exact aaq (by simp) (by simp) (by simp));(case a8=>simp;omega);(case cP=>simp;omega);intro v' w4 Cm eF;have jP:=eF;have ny:=Cm))
   go_roundw
   case rel=>
    have hY:=qQ.dn ((B.alloc _).alloc _) ((jA.alloc tb _).alloc (by simp;omega) _) (by simp;omega) jP;refine⟨k+1,by omega,by go_num,by rw[IG _ t];exact ny,?_,hY⟩;refine cu du (λg' iH=> ?_);obtain⟨Px,Cx⟩:=b0 du iH;have aae:=aU Cx;rw[jP.block g' (by simp;omega) (λe=>by obtain⟨bq,gP⟩:=b0 ((B.alloc (af (b[k].1.1) (b[k].1.2))).alloc (.cells #[A b[k].2.1,A b[k].2.2.1,A b[k].2.2.2] 57)) e.symm;exact absurd (cQ (nm (nm Cx)) gP) (by decide))]
    rw[is _ _ (by simp;omega),is _ _ aae]
   case measure=>simp[intOf];omega
  go_wp2;go_ret
  rw[kp (by omega)]at y;exact⟨_,b,rfl,q.1,q.2,y,r⟩
end
section
open Go.RowKit Tryz
attribute [local go_sem ↓] Go.wp_at_zero Go.wp_at_succ
variable {a h:List (PId×ay)}{b f l:World}{c i k:Nat}{d:Nat->Int}{e j:Nat->Prop}
def j3 (m:List (PId×ay)) (c n:Int):Nat->List ay
 |0=>[]
 |f+1=>match bV (c,n+1) m with
  |none=>[]
  |some o=>o::j3 m c (n+1) f
theorem run_get(m:List (PId×ay))(c:Int):∀(f:Nat) (n:Int) (j:Nat) (a:j<(j3 m c n f).length),bV (c,n+1+j) m=some (j3 m c n f)[j]
 |0,n,j,a=>by contradiction
 |f+1,n,j,a=>by
  cases b:bV (c,n+1) m with
  |none=>simp[j3,b]at a
  |some o=>
   match j with
   |0=>simp[j3,b]
   |j+1=>have :=run_get m c f (n+1) j (by simpa[j3,b]using a);simp only[j3,b,OD];rw[<-this];congr 2;omega
theorem ab2(m:List (PId×ay))(c:Int):∀(f:Nat) (n:Int),(j3 m c n f).length<f->bV (c,n+1+(j3 m c n f).length) m=none
 |0,n,h=>by omega
 |f+1,n,h=>by
  cases a:bV (c,n+1) m with
  |none=>simp[j3,a]
  |some o=>
   have b:(j3 m c (n+1) f).length<f:=by simpa[j3,a]using h
   have :=ab2 m c f (n+1) b;simp only[j3,a,iq];rw[<-this];congr 2;omega
theorem Vt(m:List (PId×ay))(c:Int):∀(f:Nat) (n:Int),(j3 m c n f).length<=f
 |0,n=>by simp[j3]
 |f+1,n=>by
  cases a:bV (c,n+1) m with
  |none=>simp[j3,a]
  |some o=>simpa[j3,a]using Vt m c f (n+1)
theorem alG(d:∀p∈a,p.1.2<=60){c n:Int}(e:0<=n):(j3 a c n 61).length<61:=by
 have h:=Vt a c 61 n;rcases Nat.lt_or_ge (j3 a c n 61).length 61 with b|b
 .exact b
 have :=d _ (gZ (run_get a c 61 n 60 (by omega)));simp only at this;omega
def kC (m:List (PId×ay)) (ai:Nat->Int) (c:Nat):List ay:=(List.range c).flatMap λ(i:Nat)=>j3 m (i:Int) (ai i) 61
def uw (m:List (PId×ay)) (ai:Nat->Int) (c:Nat):List PId:=(List.range c).flatMap λ(i:Nat)=>(List.range (j3 m (i:Int) (ai i) 61).length).map λ(j:Nat)=>((i:Int),ai i+1+(j:Int))
theorem QD(m:List (PId×ay))(a:Nat->Int)(c:Nat):kC m a (c+1)=kC m a c++j3 m c (a c) 61:=by unfold kC;rw[mM,oL];simp
theorem alH (m:List (PId×ay)) (a:Nat->Int) (c:Nat):uw m a (c+1)=uw m a c++(List.range (j3 m (c:Int) (a c) 61).length).map λ(j:Nat)=>((c:Int),a c+1+(j:Int)):=by unfold uw;rw[mM,oL];simp
theorem ab3(m:List (PId×ay))(a:Nat->Int):∀c,(kC m a c).length<=c*61
 |0=>by simp[kC]
 |c+1=>by have b:=ab3 m a c;have d:=Vt m (c:Int) 61 (a c);rw[QD,dh,uW];omega
theorem alI{x:PId}(h:x∈uw a d c):x.1<c:=by
 obtain⟨i,e,b⟩:=lg.1 h;obtain⟨j,_,rfl⟩:=dF.1 b
 simp_all
structure yv (m:List (PId×ay)) (dR:List PId) (m':List (PId×ay)):Prop where
 kj:(m'.map (·.1)).Nodup
 sub:∀p∈m',p∈m
 rH:∀x,x∉dR->bV x m'=bV x m
 dR:∀x∈dR,bV x m'=none
theorem Vu {κ ν:Type} [DecidableEq κ] (x:κ):∀m:List (κ×ν),(sj x m).Sublist m
 |[]=>.slnil
 |p::m=>by
  unfold sj;split
  .simp
  exact(Vu x m).cons_cons p
theorem QE {κ ν:Type} [DecidableEq κ] (x:κ) (p:κ×ν) (m:List (κ×ν)):bV x (p::m)=if x=p.1 then some p.2 else bV x m:=by unfold bV;rw[Ix];by_cases h:x=p.1<;>simp[h]
theorem Vv {κ ν:Type} [DecidableEq κ] {x y:κ} (h:x≠y):∀m:List (κ×ν),bV x (sj y m)=bV x m
 |[]=>rfl
 |p::m=>by
  unfold sj;split
  .rename_i e
   rw[QE,a7 (λa=>h (a.trans e.symm))]
  rw[QE,QE,Vv h m]
theorem ab4 {κ ν:Type} [DecidableEq κ] {x:κ}:∀{m:List (κ×ν)},(m.map (·.1)).Nodup->bV x (sj x m)=none
 |[],_=>rfl
 |p::m,a=>by
  simp only[ip,oN]at a;unfold sj;split
  .rename_i e
   exact akM (e▸a.1)
  rename_i e
  rw[QE,a7 e];exact ab4 a.2
theorem yv.cut{c}(b:yv h c a)(x:PId):yv h (c++[x]) (sj x a):=by
 have d:=Vu x a;refine⟨(d.map _).nodup b.kj,λp g=>b.sub p (d.subset g),λy f=> ?_,λy f=> ?_⟩
 .have i:y≠x:=by simp_all
  rw[Vv i,b.rH y λj=>f (p3 _ j)]
 by_cases e:y=x
 .subst e;exact ab4 b.kj
 rw[Vv e];exact b.dR y (by simp_all)
theorem dU.ab5 {w:Nat} {gt:Int} {y:List ay} {q:gm} (g:dU b i j e k w c gt d y h q) (r:aR (λm=>m=q.j0) b l) (I:∃z B,isMap dC Vm l q.j0 a z B) (L:∀p∈a,rQ b e (.iface p.2.t p.2.v) p.2.op.chg):dU l i j e k w c gt d y a q:=by
 have o:=λm hF M=>r.other m (g.lt m hF) M
 have C:=λm D=>r.other m (g.cI m D) λn=>g.e0 m D (n▸g.q8)
 obtain⟨z,B,N⟩:=g.E0;obtain⟨P,Q,R⟩:=g.E2;have s:∀(m:Nat) (c:Array Value) (t:TypeId) (f:Nat×Nat),b.heap[m]?=some (.cells c t f)->m≠q.j0:=λm c t f o n=>by rw[n,N.bb]at o;cases o
 refine⟨by rw[o _ g.cc (s _ _ _ _ g.bb)];exact g.bb,by rw[o _ g.gK (s _ _ _ _ g.cF)];exact g.cF,g.kB.hA r.size (λm hF=>o m (g.ti m hF) (λn=>g.E4 (n▸hF))) C,g.iY,g.j1,I,λp u=>(L p u).fW C (λ_ x=>x),⟨P,Q,R.hU (o _ g.yt (eE g.Hn))⟩,λp u=> ?_,g.hc,g.hN,g.cc,g.gK,g.q8,g.yt,g.ti,g.qt,g.E3,g.E4,g.Hm,g.Hn,λm hF=>c0 (g.lt m hF) r.size,g.e0⟩;obtain⟨⟨S,E⟩,U,F,W⟩:=g.zK p u;exact⟨⟨S,by rw[o _ F (s _ _ _ _ E)];exact E⟩,U,F,W⟩
theorem aR.over (h:aR e b f) (k:aR (λk=>b.heap.size<=k) f l):aR e b l:=
 ⟨k.os.trans h.os,k.tape.trans h.tape,k.output.trans h.output,cd h.size k.size,λi a c=>(k.other i (c0 a h.size) (by omega)).trans (h.other i a c)⟩
theorem aR.alJ{S}{a:Option Nat}(h:aR S b f)(c:f.grownBy l a)(d:∀k,a=some k->b.heap.size<=k):aR S b l:=
 h.over (aR.up c d)
def ab6:Value->Nat
 |.slice _ n _=>n
 |_=>0
theorem ab7(W:World):(zeroValue 210).run prog W=.ok (.agg #[A 0,A 0,A 0,.nilIface]) W:=by kernel_rfl
theorem alK {sp c:Nat} {gt:Int} {ar:List ay} {q:gm} (h:dU b k e j i sp c gt d ar a q) (cS:(a.map (·.1)).Nodup) (xk:∀p∈a,p.1.2<=60) (jE:∀n,n<i->0<=d n/\d n<=1000):
  O 310 #[Z k] b λr w'=>∃v j4,r=ad v/\eV b.heap.size w' v (kC a d i)/\dU w' k e j i sp c gt d ar j4 q/\yv a (uw a d i) j4/\aR (λl=>l=q.j0) b w':=by
 have Bw:=h.hN;obtain⟨bw,bm,bq,ce,eN,j2⟩:=h.cells;clear bw bm ce eN j2;have L:=ag h;clear h;have kZ:=ag (aN cS (aN xk jE));clear cS xk jE;go_enter func310,ntmps310;go_wp2_with fail
 go_loopw [3,14] (λv n wr=>∃l j4,l<=i/\n=A (l:Nat)/\eV b.heap.size wr v (kC a d l)/\dU wr k e j i sp c gt d ar j4 q/\yv a (uw a d l) j4/\aR (λl=>l=q.j0) b wr) (λ_ n _=>i-(intOf n).toNat)
 case atStart=>exact⟨0,a,b6 _,rfl,(show eV b.heap.size b (.slice none 0 0) [] from hg _ _ _ _),L.o,⟨kZ.o.1,λ_ x=>x,λ_ _=>rfl,λx E=>by cases E⟩,aR.cL (ca _ _)⟩
 case round=>
  obtain⟨l,QF,Q,rfl,bQ,bU,ho,cv⟩:=hrel;by_cases aL:l<i
  .have uu:=bU.Ho aL;obtain⟨Hs,Ht⟩:=kZ.o.2.2 l aL;have jY:(0:Int)<=(l:Int):=by simp
   have dK:(l:Int)<(i:Int):=by omega
   have Vp:IntKind.i64.wrap (d l+1)=d l+1:=mN _ (by omega);have M:=ag (aN bQ (aN bU (aN ho cv)));clear bQ bU ho cv;obtain⟨N,zM⟩:∃N,N=wr:=⟨_,rfl⟩;subst zM;go_wp2_with fail
   have fz:=alG kZ.o.2.1 (c:=(l:Int)) Hs;obtain⟨run,Vw⟩:∃run,run=j3 a (l:Int) (d l) 61:=⟨_,rfl⟩;rw[<-Vw]at fz;have R:=ag Vw;have dT:=ag (ab3 a d l);have hz:(kC a d l).length<=200:=by have :=dT.o;omega
   obtain⟨u,pK⟩:∃u,u=kC a d l:=⟨_,rfl⟩;obtain⟨cT,n1⟩:∃cT,cT=uw a d l:=⟨_,rfl⟩;rw[<-pK]at hz M;rw[<-n1]at M;have Vx:=ag (aN pK (aN n1 λx (E:x∈cT)=>alI (n1▸E)));clear Vw pK n1 uu;have bE:=ag (show J N (N.alloc (.cells #[A l,A (d l+1)] 371)) from aV N _);go_loopw [3,6] (λv s kO=>∃m Mx C,s=Z C/\b.heap.size<=C/\kO.heap[C]?=some (.cells #[A l,A (d l+1+(m:Nat))] 371)/\m<=run.length/\eV b.heap.size kO v (u++run.take m)/\dU kO k e j i sp c gt d ar Mx q/\yv a (cT++(List.range m).map λ(n:Nat)=>((l:Int),d l+1+(n:Int))) Mx/\aR (λl=>l=q.j0) b kO) (λv _ _=>1000-ab6 v)
   case atStart=>
    refine⟨0,QF,N.heap.size,rfl,M.o.2.2.2.size,?_,b6 _,?_,M.o.2.1.ak bE.o,?_,M.o.2.2.2.trans (aR.cL bE.o)⟩
    .have :=bZ N (.cells #[A l,A (d l+1)] 371);simpa using this
    .rw[Ga,oM];exact dI M.o.1 bE.o
    rw[List.range_zero,uV,oM];exact M.o.2.2.1
   case round=>
    obtain⟨m,Mx,C,rfl,hBx,h8,iV,hD,U,Vy,xc⟩:=hrel;have w:=ag (aN hD (aN U (aN Vy xc)));obtain⟨d0,d1,d2,d3,X,d5⟩:=U.cells;clear d0 d1 d2 d3 d5;obtain⟨c4,bK⟩:=bD h8;obtain⟨es,aX,il⟩:=U.E0;have yw:=Vy.rH ((l:Int),d l+1+(m:Int)) (λE=>by
     rcases dZ.1 E with E|E
     .have :=Vx.o.2.2 _ E;omega
     obtain⟨n,hi,he⟩:=dF.1 E;have :=rA.1 hi;injection he with _ he;omega)
    have gC:=aU h8;have vG:wr.heap.size≠q.j0:=by have :=U.lt _ U.q8;omega
    have alL:C≠q.j0:=λr=>by have :=L.o.lt _ L.o.q8;omega
    obtain⟨Y,dL,rfl,AR,zJ,ys⟩:=bz hD;clear ys;unfold maxLen at zJ;have abY:=xc.size;clear hD U Vy xc;by_cases aB:m<run.length
    .have F:=run_get a (l:Int) 61 (d l) m (by rw[<-R.o];exact aB);obtain⟨o,al⟩:∃o,o=run[m]:=⟨_,rfl⟩;have iH:bV ((l:Int),d l+1+(m:Int)) Mx=some o:=by rw[yw,F,al];congr 1;exact List.getElem_of_eq R.o.symm _
     have dV:=ag (show u++run.take (m+1)=(u++run.take m)++[o] by rw[lx aB,<-al,kr]);clear al F yw;have wX:(u++run.take m).length<=300:=by rw[dh,gU];omega
     have sF:=ag (show(u++run.take m).length=u.length+m by rw[dh,gU];omega);obtain⟨y,yx⟩:∃y,y=u++run.take m:=⟨_,rfl⟩;rw[<-yx]at dV w wX AR sF⊢;clear yx;have z:∀W,J wr W->(Instr.lookup 106 (.map (some q.j0)) (.agg #[A l,A (d l+1+(m:Int))]) true).run prog W=.ok (.tuple #[.agg #[A o.op.id.1,A o.op.id.2,A o.op.cb,.iface o.t o.v],.bool true]) W:=λW ah=>by have :=Cj Qx (il.ak ah) underlying106 (ab7 W) ((l:Int),d l+1+(m:Int)) true;rw[iH]at this;exact this
     have eA:=z wr (ca _ _);have db:=z wr.drew (gb _);have Ey:=z _ (aV wr (.cells #[A 0,A 0,A 0,.nilIface] 210));have JK:=z _ (aV wr (.cells #[A 0,A 0,A 0,.nilIface] 210)).drew;have wU:=ag z;clear z;have Hu:=ag il;clear il;have qi:=ag h8;clear h8;have qR:=e7 wr _ X;simp only at qR;have iu:=World.new_ne wr (K k 4) X;have yj:=World.new_ne wr (H C) c4;have B:=ag ((aV wr (.cells #[A o.op.id.1,A o.op.id.2,A o.op.cb,.iface o.t o.v] 210)).drew.drew);obtain⟨EE,Vz,CS⟩:=ZA Qx (Hu.o.ak B.o) underlying106 (ty:=0) (t2:=371) ((l:Int),d l+1+(m:Int));simp only[dC]at Vz;have I:=ag (show aR (λl=>l=q.j0) _ (putObj (wr.alloc (.cells #[A o.op.id.1,A o.op.id.2,A o.op.cb,.iface o.t o.v] 210)).drew.drew q.j0 (.map EE aX)) from aR.put _ rfl);have G1:=ag CS;clear CS;obtain⟨D,QG⟩:∃D,putObj (wr.alloc (.cells #[A o.op.id.1,A o.op.id.2,A o.op.cb,.iface o.t o.v] 210)).drew.drew q.j0 (.map EE aX)=D:=⟨_,rfl⟩;have hz9:D.heap.size=wr.heap.size+1:=by rw[<-QG];simp[putObj]
     rw[QG]at Vz G1 I;have HZ9:=ag hz9;clear QG hz9;obtain⟨fj,gv,mR,pw⟩:=Bh wr (A o.op.id.1) (A o.op.id.2) (A o.op.cb) (.iface o.t o.v) 210;replace fj:=I.o.cell vG fj;replace gv:=I.o.cell vG gv;replace mR:=I.o.cell vG mR;replace pw:=I.o.cell vG pw;have HX9:=ag ((I.o.other C (c0 gC B.o.size) alL).trans (bB qi.o B.o));have d4':=ak B.o X;have b0':=ak B.o c4;have GW:=ak B.o bK;have QH:=ag (show eV b.heap.size D (.slice Y y.length dL) y from cu (dI w.o.1 B.o) λg F=>I.o.other g (by obtain⟨cur,hc⟩:=b0 (dI w.o.1 B.o) F;exact aU hc) (λr=>by have h1:=(cX w.o.1 _ F).1;have :=L.o.lt _ L.o.q8;omega))
     have b9:=ag (aV D (.cells #[A o.op.id.1,A o.op.id.2,A o.op.cb,.iface o.t o.v] 210));have My:=ag (UH (x:=o) (Bh D (A o.op.id.1) (A o.op.id.2) (A o.op.cb) (.iface o.t o.v) 210).1 (Bh D (A o.op.id.1) (A o.op.id.2) (A o.op.cb) (.iface o.t o.v) 210).2.1 (Bh D (A o.op.id.1) (A o.op.id.2) (A o.op.cb) (.iface o.t o.v) 210).2.2.1 (Bh D (A o.op.id.1) (A o.op.id.2) (A o.op.cb) (.iface o.t o.v) 210).2.2.2);have VA:=ag (show(Value.slice Y y.length dL).ownBlock≠some C from λr=>by exact iX QH.o r HX9.o (by decide))
     have JL:=ag (bB HX9.o b9.o);have px:=ag (λl (Q:(Value.slice Y y.length dL).ownBlock=some l)=>(cX w.o.1 l Q).1);go_wp2_with fail
     go_region
     all_goals go_wp2_with fail
     all_goals clear eA db Ey JK X c4 bK
     all_goals go_region
     all_goals clear d4' b0' GW Vz
     all_goals go_wp2_with (first
      |(at_builtin;refine CV ec 4 40 202 210 (.agg #[A 0,A 0,A 0,.nilIface]) (by rfl) underlying202 rfl (by omega) (λ_=>rfl) rfl (.tmp 43) (.tmp 45) rfl b.heap.size (.slice Y y.length dL) y rfl (dI QH.o b9.o) D.heap.size 1 o rfl My.o (CW o) (by omega) (by unfold maxLen;omega) (by have :=HZ9.o;simp;omega) ?_;intro v' w10 Hv E9 QI;have Mz:=ag Hv;have JM:=ag E9;obtain⟨gX,q1⟩:=bD (((aR.up (S:=λl=>(Value.slice Y y.length dL).ownBlock=some l) E9 (λl Q=>Q)).other C (aU JL.o) VA.o).trans JL.o))
      |fail)
     all_goals go_roundw
     case rel|rel=>
      have ab8:=(w.o.2.2.2.trans ((aR.cL B.o).trans (I.o.trans (aR.cL b9.o)))).alJ JM.o px.o;have hR9:=(w.o.2.1.ak B.o).ab5 I.o ⟨_,_,G1.o⟩ λp au=>(w.o.2.1.ak B.o).E1 p ((Vu _ _).subset au)
      have VB:=hR9.ak b9.o;have VC:=aR.up (S:=λl=>(Value.slice Y y.length dL).ownBlock=some l) JM.o (λl Q=>Q);have alM:=VB.hA VC.size (λl hF=>VC.other l (VB.lt l hF) λr=>by have :=px.o l r;have :=L.o.lt l hF;omega) (λl hF=>VC.other l (VB.cI l hF) λr=>by have :=px.o l r;have :=L.o.cI l hF;omega);have P:J w10 (w10.alloc (.cells #[A l,A (d l+1+(m:Int)+1)] 371)):=aV w10 _;refine⟨m+1,_,w10.heap.size,rfl,ab8.size,?_,by omega,?_,alM.ak P,?_,ab8.trans (aR.cL P)⟩
      .have :=bZ w10 (.cells #[A l,A (d l+1+(m:Int)+1)] 371);rw[this,show d l+1+(m:Int)+1=d l+1+((m+1:Nat):Int) by omega]
      .rw[dV.o];refine dI ?_ P;have :=Mz.o;show w10.ownsRow b.heap.size 210 4 v' (y++[o]).length ((y++[o]).flatMap ec);rwa [dh]
      have :=w.o.2.2.1.cut ((l:Int),d l+1+(m:Int));rwa [kr,<-SG (f:=λ(n:Nat)=>((l:Int),d l+1+(n:Int))),<-ga,<-mM]at this
     case measure|measure=>obtain⟨lU,cB,rfl,_,_,_⟩:=bz Mz.o;simp only[ab6];omega
    have tx:m=run.length:=by omega
    have F:=ab2 a (l:Int) 61 (d l) (by rw[<-R.o];exact fz);rw[<-R.o,<-tx]at F;rw[F]at yw;have z:∀W,J wr W->(Instr.lookup 106 (.map (some q.j0)) (.agg #[A l,A (d l+1+(m:Int))]) true).run prog W=.ok (.tuple #[.agg #[A 0,A 0,A 0,.nilIface],.bool false]) W:=λW ah=>by have :=Cj Qx (il.ak ah) underlying106 (ab7 W) ((l:Int),d l+1+(m:Int)) true;rw[yw]at this;exact this
    have eA:=z wr (ca _ _);have db:=z wr.drew (gb _);have Ey:=z _ (aV wr (.cells #[A 0,A 0,A 0,.nilIface] 210));have JK:=z _ (aV wr (.cells #[A 0,A 0,A 0,.nilIface] 210)).drew;have wU:=ag z;have Hu:=ag il;have qi:=ag h8;have qR:=e7 wr _ X;simp only at qR;have iu:=World.new_ne wr (K k 4) X;have yj:=World.new_ne wr (H C) c4;have HRT:=ag (show u++run.take m=kC a d (l+1) by rw[QD,<-Vx.o.1,<-R.o,tx,wv]);have Hw:=ag (show cT++(List.range m).map (λ(n:Nat)=>((l:Int),d l+1+(n:Int)))=uw a d (l+1) by rw[alH,<-Vx.o.2.1,<-R.o,tx]);clear tx aB F;go_wp2_with fail
    go_region
    all_goals go_wp2_with fail
    all_goals
     have P:J wr (wr.alloc (.cells #[A 0,A 0,A 0,.nilIface] 210)).drew:=(aV wr _).drew;refine⟨⟨l+1,Mx,by omega,by go_num,?_,w.o.2.1.ak P,?_,w.o.2.2.2.trans (aR.cL P)⟩,by simp[intOf];omega⟩
     .have h1:=dI w.o.1 P;rw[<-HRT.o];rw[show(u++run.take m).length=u.length+m by rw[dh,gU];omega]at h1;show World.ownsRow _ _ _ _ _ (u++run.take m).length _;rw[show(u++run.take m).length=u.length+m by rw[dh,gU];omega];exact h1
     rw[<-Hw.o];exact w.o.2.2.1
  have iC:l=i:=by omega
  have a1:=ag (aN bQ (aN bU (aN ho (aN cv iC))));go_wp2_with fail
  go_ret
  obtain⟨h1,h2,ax,a8,rfl⟩:=a1.o;exact⟨_,QF,rfl,h1,h2,ax,a8⟩
end
section
open Go.RowKit Go.Sort Go.Shelf Tryz
attribute [local go_sem ↓] Go.wp_at_zero Go.wp_at_succ
def fe (x:ay):PId:=(x.op.id.2,x.op.cb)
def VD (x y:ay):Int:=pE (fe x) (fe y)
theorem alN:SWO (ltOf VD):=⟨λx=>Qu.1 (fe x),λx y z=>Qu.2 (fe x) (fe y) (fe z),λx y z=>Qu.3 (fe x) (fe y) (fe z)⟩
theorem alO (x y:ay) (w:World):
  O 282 #[.agg #[A x.op.id.1,A x.op.id.2,A x.op.cb,.iface x.t x.v],.agg #[A y.op.id.1,A y.op.id.2,A y.op.cb,.iface y.t y.v]] w λe c=>e=ad (A (VD x y))/\∃q d,c=grow (w.drewN q) d:=by
 go_enter func282,ntmps282;go_wp2_with fail
 go_region_held3 (λW=>W.cell? (V w 1)=some (A x.op.id.2)/\W.cell? (V w 2)=some (A x.op.cb)/\W.cell? (K (w.heap.size+1) 1)=some (A y.op.id.2)/\W.cell? (K (w.heap.size+1) 2)=some (A y.op.cb)) (go_keep)
  (first
   |(go_at_call 166;refine(UE _ _ _).mono ?_;rintro e c ⟨rfl,rfl⟩)
   |(go_at_call 165;refine(UF (g:=w.heap.size+2) (a:=yi x.op.id.2 y.op.id.2) (b:=yi x.op.cb y.op.cb) ?_ ?_).mono ?_;(exact(Jr _ _ _ _ _ _).1);(exact(Jr _ _ _ _ _ _).2);rintro e c ⟨rfl,rfl⟩))
 all_goals go_wp2
 all_goals go_ret
 all_goals exact⟨rfl,1,_,abF _ _ _ _⟩
theorem alP(args:Array Value)(w:World):(callFunc 282 args).run prog w=.ok (.enter 282 args) w:=
 enters_of func282 (by rfl) rfl args w
def Bz (l:List ay):Prop:=l.Pairwise λx y=>gj (fe x) (fe y)=true
theorem alQ{l:List ay}(e:(l.map fe).Nodup)(f:∀i j (a:i<l.length) (b:j<l.length),i<j->gj (fe l[j]) (fe l[i])=false):Bz l:=by
 unfold Bz;rw[tT];intro i j a b c;cases h:gj (fe l[i]) (fe l[j]) with
 |true=>rfl
 |false=>exfalso;have :=Vd h (f i j a b c);have d:=tT.1 e i j (by simp_all) (by simp_all) c;simp only[pn]at d;exact d this
theorem alR (a:Option Addr) (c:Nat) (f:Value) (w:World):O 286 #[.slice a 0 c,A 0,A 0,f] w λe b=>e=ad (.tuple #[])/\J w b:=by
 go_enter func286,ntmps286;go_wp2;refine KZ 1 ?_;rw[K0];go_wp2;go_end0
 exact⟨rfl,ca _ _⟩
theorem alS (a:Option Addr) (c:Nat) (b:Int) (f:Value) (w:World):O 285 #[.slice a 0 c,A 0,A 0,A b,f] w λe d=>e=ad (.tuple #[])/\J w d:=by
 go_enter func285,ntmps285;go_wp2_with fail
 refine KZ 1 ?_;rw[K0];go_wp2_with fail
 refine(alR a c f w).mono ?_;rintro e h ⟨rfl,g⟩;go_wp2;exact ey (v:=.tuple #[]) (by simp[results,results285,go_sem]) rfl ⟨rfl,g⟩
theorem alT (a:Option Addr) (c:Nat) (f:Value) (w:World):O 281 #[.slice a 0 c,f] w λe d=>e=ad (.tuple #[])/\J w d:=by
 have g:=λb=>alS a c b f w
 go_enter func281,ntmps281;go_wp2_with fail
 refine(aaN 0 (by omega) w).mono ?_;rintro e h ⟨⟨b,rfl⟩,rfl⟩;go_wp2_with fail
 refine(g b).mono ?_;rintro e i ⟨rfl,j⟩;go_wp2;go_end0
 simp_all
theorem alU {B:Nat} {w:World} {u:Value} {l:List ay} (h:eV B w u l) (z:(l.map fe).Nodup) (R:l.length<=10000):
  O 281 #[u,.func (.func 282) #[] #[]] w λe f=>e=ad (.tuple #[])/\∃p,p.Perm l/\Bz p/\eV B f u p/\w.grownBy f u.ownBlock:=by
 by_cases C:l.length=0
 .have :l=[]:=D7 C;subst this;obtain⟨a,c,rfl,_,_,_⟩:=bz h;refine(alT a c _ w).mono ?_;rintro e f ⟨rfl,d⟩;exact⟨rfl,[],.refl _,List.Pairwise.nil,dI h d,⟨d.os,d.tape,d.output,d.size,λk D _=>d.block k D⟩⟩
 haveI:Inhabited ay:=⟨⟨⟨(0,0),0,.inl false⟩,0,.nilIface⟩⟩
 obtain⟨a,c,rfl,S,U,E⟩:=bz h;obtain⟨g,rfl⟩:=E 0 (by omega);obtain⟨F,I⟩:=abJ ec 4 (λ_=>rfl) h;have q:=AnyQ.slices_SortFunc sortOps 4 isAgg210 sizeOf210 ec (λ_=>rfl) (λx v r=>by simp[ec]at r;rcases r with rfl|rfl|rfl|rfl<;>rfl) VD alN 282 #[] g 0 c l.toArray w alP (λm s W _ x y=>alO x y _) F I (by simp;omega);change O 281 _ _ _ at q;refine q.mono ?_;rintro e f ⟨rfl,b,n,s,L,M,rfl⟩;obtain⟨o,_,X⟩:=L;simp at o;obtain⟨N,P⟩:=abI ec 4 (λ_=>rfl) h n b o s;have t:b.toList.Perm l:=by
  have Y:(b.extract 0 l.length).toList=b.toList:=by rw[<-o];simp
  simp_all
 refine⟨rfl,b.toList,t,alQ ((t.map fe).nodup_iff.2 z) (λi j hi aB Q=> ?_),?_,P⟩
 .have :=M i j (b6 _) Q (by simp_all);rw[ID b j (by omega),ID b i (by omega)]at this
  assumption
 unfold eV;rw[show b.toList.length=l.length by simp[o]];exact N
end
section
open Go.RowKit Tryz
attribute [local go_sem ↓] Go.wp_at_zero Go.wp_at_succ
variable {a c:Nat}{b:List (PId×ay)}
structure alV (w:World) (I:Nat->Prop) (g off:Nat) (xs:List ay):Prop where
 cells:∀k (hk:k<xs.length),w.cell? (K g (off+k*4))=some (A xs[k].op.id.1)/\w.cell? (K g (off+k*4+1))=some (A xs[k].op.id.2)/\w.cell? (K g (off+k*4+2))=some (A xs[k].op.cb)/\w.cell? (K g (off+k*4+3))=some (.iface xs[k].t xs[k].v)
 QJ:I g
 off:off<=100000
def opsV (w:World) (I:Nat->Prop) (v:Value) (b:List ay):Prop:=∃a c,v=.slice a b.length c/\b.length<=c/\c<=9223372036854775807/\(0<b.length->∃g d,a=some (K g d)/\alV w I g d b)/\∀x∈b,rQ w I (.iface x.t x.v) x.op.chg
theorem opsV.fW{w I v e}{w':World}{d:Nat->Prop}(h:opsV w I v e)(f:∀k,I k->w'.heap[k]?=w.heap[k]?)(j:∀k,I k->d k):opsV w' d v e:=by
 obtain⟨a,l,m,n,o,p,q⟩:=h;refine⟨a,l,m,n,o,λr=> ?_,λx s=>(q x s).fW f j⟩;obtain⟨g,t,u,b⟩:=p r;have c:∀i,w'.cell? (K g i)=w.cell? (K g i):=λi=>by simp[World.cell?,f g b.QJ]
 refine⟨g,t,u,⟨λk y=> ?_,j _ b.QJ,b.off⟩⟩;rw[c,c,c,c];exact b.cells k y
def jL (ai:Nat->Int) (m:List (PId×ay)) (xs:List ay):List (PId×ay):=xs.foldl (λm x=>if ai x.op.id.2.toNat<x.op.cb then dj (fe x) x m else m) m
theorem alW{ai:Nat->Int}{m:List (PId×ay)}{xs:List ay}(b:a<xs.length):jL ai m (xs.take (a+1))=if ai xs[a].op.id.2.toNat<xs[a].op.cb then dj (fe xs[a]) xs[a] (jL ai m (xs.take a)) else jL ai m (xs.take a):=by rw[lx b];unfold jL;rw[Ax];rfl
theorem ab9{a:Nat->Int}:∀{xs:List ay} {m:List (PId×ay)} {p:PId×ay},p∈jL a m xs->p∈m\/∃x∈xs,p=(fe x,x)
 |[],m,p,h=>.inl h
 |x::xs,m,p,h=>by
  have c:p∈jL a (if a x.op.id.2.toNat<x.op.cb then dj (fe x) x m else m) xs:=h;rcases ab9 c with b|⟨y,e,f⟩
  .split at b
   .rcases qk b with d|d
    .simp_all
    simp_all
   simp_all
  simp_all
theorem aca{a:Nat->Int}:∀{xs:List ay} {m:List (PId×ay)},(m.map (·.1)).Nodup->((jL a m xs).map (·.1)).Nodup
 |[],m,h=>h
 |x::xs,m,h=>by
  refine aca (xs:=xs) (m:=if a x.op.id.2.toNat<x.op.cb then dj (fe x) x m else m) ?_;split
  .exact G4 h
  omega
theorem VE (c a b:Int) (d:TypeId) (f:Value) (w:World):
  O 280 #[.agg #[A c,A a,A b,.iface d f]] w λe g=>e=ad (.agg #[A a,A b])/\J w g:=by
 go_enter func280,ntmps280;go_wp2_with fail
 refine ey (v:=.agg #[A a,A b]) (by simp[results,results280,go_sem]) rfl ?_;exact⟨rfl,(aV w (.cells #[A c,A a,A b,.iface d f] 210)).alloc (by simp) (.cells #[A a,A b] 371)⟩
theorem acb{w:World}{e:TypeId}{size:Nat}{v:Value}{b:List Value}(h:w.ownsRow c e size v a b):w.ownsRow 0 e size v a b:=by
 refine⟨h.1,?_⟩;rcases h.2 with i|⟨g,d,f,rfl,j,rest⟩
 .simp_all
 exact .inr ⟨g,d,f,rfl,b6 _,rest⟩
theorem alX{c:Int}{n:Int}{x:ay}(h:x∈j3 b c n a):∃p∈b,p.2=x:=by obtain⟨j,d,rfl⟩:=mm.1 h;exact⟨_,gZ (run_get b c a n j d),rfl⟩
theorem QK{ai:Nat->Int}{x:ay}(h:x∈kC b ai a):∃p∈b,p.2=x:=by obtain⟨i,_,c⟩:=lg.1 h;exact alX c
theorem alY {w:World} {F I:Nat->Prop} {sp d:Nat} {gt:Int} {ai:Nat->Int} {P:List ay} {q:gm} (h:dU w c F I a sp d gt ai P b q) (f:List ay) {v:Value} (aO:opsV w I v f) (D:∀x∈f,0<=x.op.id.2/\x.op.id.2<a)
  (cS:((jL ai b f).map (·.1)).Nodup) (xk:∀p∈jL ai b f,p.1.2<=60) (jE:∀i,i<a->0<=ai i/\ai i<=1000)
  (uy:((kC (jL ai b f) ai a++P).map λo=>o.op.id).Nodup) (hlen:P.length+(kC (jL ai b f) ai a).length<=300) (G6:∀x∈kC (jL ai b f) ai a,0<=x.op.id.2/\x.op.id.2<a):
  O 309 #[Z c,v] w λe w'=>(∃r,e=ad r)/\∃X Y j4,dU w' c X I a sp d (o7 gt (kC (jL ai b f) ai a)) (hasAll ai (kC (jL ai b f) ai a)) (kk P (kC (jL ai b f) ai a)) j4 Y/\yv (jL ai b f) (uw (jL ai b f) ai a) j4/\JF q Y/\dp F X w w':=by
 obtain⟨dQ,dL,rfl,AR,zJ,z,pz⟩:=aO;have Bw:=h.hN;have B:=h;have e2:=aN z (aN pz D);clear z pz D;have kZ:=ag (aN cS (aN xk (aN jE (aN uy (aN hlen G6)))));go_enter func309,ntmps309;go_wp2_with fail
 go_loopw [8] (λi wr=>∃k,k<=f.length/\i=A (k:Nat)/\dU wr c F I a sp d gt ai P (jL ai b (f.take k)) q/\aR (λk=>k=q.j0) w wr) (λi _=>f.length-(intOf i).toNat)
 case atStart=>exact⟨0,b6 _,rfl,B,aR.cL (ca _ _)⟩
 case round=>
  obtain⟨k,ej,rfl,u,l⟩:=hrel;by_cases aL:k<f.length
  .obtain⟨g,off,rfl,z⟩:=e2.1 (by omega);obtain⟨cR,Q,aD,cY⟩:=z.cells k aL;have dG:=B.cI _ z.QJ;have QL:g≠q.j0:=λe=>B.e0 _ z.QJ (e▸B.q8)
   replace cR:=l.cell QL cR;replace Q:=l.cell QL Q;replace aD:=l.cell QL aD;replace cY:=l.cell QL cY;obtain⟨lh,fH⟩:=e2.2.2 f[k] (dB aL);have ub:=ag (e2.2.1 f[k] (dB aL));have C:=ag (alW (ai:=ai) (m:=b) aL);have auz:=z.off;have jY:(0:Int)<=(k:Int):=by simp
   have dK:(k:Int)<(f.length:Int):=by omega
   obtain⟨x,sK⟩:∃x,x=f[k]:=⟨_,rfl⟩;rw[<-sK]at cR Q aD cY lh fH ub C;clear z sK;obtain⟨n,D⟩:∃n:Nat,x.op.id.2=(n:Int):=⟨x.op.id.2.toNat,by omega⟩;have Hr:n<a:=by omega
   have Vo:(0:Int)<=(n:Int):=by simp
   have L9:(n:Int)<(a:Int):=by omega
   obtain⟨bw,bm,bq,ce,eN,j2⟩:=u.cells;clear bw bm ce j2;have uu:=u.Ho Hr;have wE:=ag D;have JN:=ag (show fe x=((n:Int),x.op.cb) by unfold fe;rw[D]);rw[show x.op.id.2.toNat=n by omega]at C;rw[D]at Q;obtain⟨ua,zA⟩:∃ua,ua=jL ai b (f.take k):=⟨_,rfl⟩;rw[<-zA]at C u;clear zA;have s:=ag (aN u l);have qR:=u.lt _ u.cc;have Df:=u.lt _ u.gK;have CA:=c0 dG l.size;obtain⟨es,aX,il⟩:=u.E0;have b9:=ag (aV wr (.cells #[A x.op.id.1,A n,A x.op.cb,.iface x.t x.v] 210));have a1:=ag (bZ wr (.cells #[A x.op.id.1,A n,A x.op.cb,.iface x.t x.v] 210));have Hu:=ag (λW (ah:J wr W)=>AD Qx (il.ak ah) underlying106 ((n:Int),x.op.cb) x);clear il u l;by_cases dJ:ai n<x.op.cb
   .rw[bn dJ]at C;go_wp2_with fail
    go_quiet (fail)
    go_wp2_with fail
    have t9:=ag (show J wr ((wr.alloc (.cells #[A x.op.id.1,A n,A x.op.cb,.iface x.t x.v] 210)).drewN nq) from io b9.o _);have JO:=ag (show((wr.alloc (.cells #[A x.op.id.1,A n,A x.op.cb,.iface x.t x.v] 210)).drewN nq).heap[wr.heap.size]?=some (.cells #[A x.op.id.1,A n,A x.op.cb,.iface x.t x.v] 210) from a1.o);obtain⟨iJ,hwq⟩:∃iJ,(wr.alloc (.cells #[A x.op.id.1,A n,A x.op.cb,.iface x.t x.v] 210)).drewN nq=iJ:=⟨_,rfl⟩;rw[hwq]at t9 JO⊢;clear hwq;obtain⟨fj,gv,mR,pw⟩:=Jp JO.o;have d4:=ak t9.o eN;clear eN bq uu cR Q aD cY;go_region_with (first
     |(go_at_call 280;refine(VE _ _ _ _ _ _).mono ?_;rintro e w1 ⟨rfl,R⟩;have fb:J iJ w1:=⟨R.os,R.tape,R.output,R.size,R.block⟩;have S:=bp t9.o fb;have d4':=ak fb d4;obtain⟨MA,p1',p2',p3'⟩:=Jp (bB JO.o fb);obtain⟨gd,gV,vE,eU⟩:=Hu.o w1 S;have VF:=eU;simp only[dC,Vm,wE.o]at vE))
    all_goals(try go_wp2_with fail)
    all_goals
     refine⟨⟨k+1,by omega,by go_num,?_,?_⟩,by simp[intOf];omega⟩
     .rw[C.o,JN.o];refine(s.o.1.ak S).ab5 (aR.put _ rfl) ⟨_,_,VF⟩ λp U=> ?_
      rcases qk U with U|rfl
      .exact(s.o.1.ak S).E1 p U
      exact ub.o.fW (λj E=>(S.block j (s.o.1.cI j E)).trans (s.o.2.other j (B.cI j E) λe=>B.e0 j E (e▸B.q8))) (λ_ y=>y)
     exact s.o.2.trans ((aR.cL S).trans (aR.put _ rfl))
   rw[a7 dJ]at C;go_wp2_with fail
   go_quiet (fail)
   go_wp2_with fail
   have eY:J wr ((wr.alloc (.cells #[A x.op.id.1,A n,A x.op.cb,.iface x.t x.v] 210)).drewN nq):=io b9.o _;refine⟨⟨k+1,by omega,by go_num,?_,s.o.2.trans (aR.cL eY)⟩,by simp[intOf];omega⟩;rw[C.o];exact s.o.1.ak eY
  have iC:k=f.length:=by omega
  subst iC;rw[wv]at u;have s:=ag (aN u l);obtain⟨h1,h2,ax,a8,cP,gi⟩:=kZ.o;have MB:=ag (alK s.o.1 h1 h2 ax);go_wp2_with fail
  refine MB.o.mono ?_;rintro e w1 ⟨v1,QF,rfl,o8,n2,MC,o9⟩;obtain⟨ck,dc,rfl,_,_,_⟩:=bz o8;have L:=ag (aN o8 (aN n2 (aN MC o9)));have Vq:=ag (abX L.o.2.1 (kC (jL ai b f) ai a) kZ.o.2.2.2.1 kZ.o.2.2.2.2.1 kZ.o.2.2.2.2.2 (.slice ck (kC (jL ai b f) ai a).length dc) (acb L.o.1) (λk M hF=>by
   have h1:=(cX L.o.1 k M).1;have h2:=s.o.1.lt k hF;omega) (λx az=>by
   obtain⟨p,U,rfl⟩:=QK az;exact(s.o.1.E1 p U).fW (λj E=>L.o.2.2.2.other j (s.o.1.cI j E) λe=>s.o.1.e0 j E (e▸s.o.1.q8)) (λ_ y=>y)))
  go_wp2_with fail
  refine Vq.o.mono ?_;rintro e w2 ⟨⟨r,rfl⟩,X,Y,vI,hD2,qs⟩;have gh:=ag (aN vI (aN hD2 qs));go_wp2;go_end0
  refine⟨⟨_,rfl⟩,X,Y,QF,gh.o.1,L.o.2.2.1,gh.o.2.1,?_⟩;have l:=s.o.2.trans L.o.2.2.2;have N:=gh.o.2.2;exact⟨N.os.trans l.os,N.tape.trans l.tape,N.output.trans l.output,cd l.size N.size,λk M hF=>(N.other k (c0 M l.size) hF).trans (l.other k M λe=>hF (e▸B.q8)),λk M=>(N.sub k M).imp id λy=>cd l.size y⟩
structure q9 (w:World) (g cap N:Nat) (bC:Nat->Int):Prop where
 cells:∀i,i<N->w.cell? (K g i)=some (A (bC i))
 JP:N<=cap
 JQ:cap<=9223372036854775807
 lt:g<w.heap.size
theorem q9.ak{w g cap N a}{w':World}(h:q9 w g cap N a)(b:J w w'):q9 w' g cap N a:=
 ⟨λi c=>Go.Proofs.YtnkpogjiiohapaaGreatDoor.ak b (h.cells i c),h.JP,h.JQ,c0 h.lt b.size⟩
def uz (a:Nat->Int) (o:ay):Bool:=decide (a o.op.id.2.toNat<o.op.cb)
theorem alZ {α:Type} {f:α->Bool} {l:List α} (b:a<l.length):(l.take (a+1)).filter f=(l.take a).filter f++if f l[a] then[l[a]] else[]:=by rw[lx b,r6];cases h:f l[a]<;>simp[h]
theorem al0 {w:World} {p sp su:Nat} {c5 cl:Value} {l:List ay} {n:Nat} {rs:List hV} {d aF be:Nat} {F I:Nat->Prop} {D0:k8} {D:cZ} (h:iP w p sp su c5 cl l n rs d aF be F I D0 D) {gk gJ N:Nat} {m:Nat->Int} (C:q9 w gk gJ N m) (hN:N<=4) (q:∀x∈l,0<=x.op.id.2/\x.op.id.2<N) (cS:(l.map fe).Nodup):
  O 276 #[.pointer (some ⟨p,0,none⟩),.slice (some ⟨gk,0,none⟩) N gJ] w λe w'=>∃v L,e=.returned v/\eV w.heap.size w' v L/\L.Perm (l.filter (uz m))/\Bz L/\Below w.heap.size w w':=by
 have W:=h.bb;unfold kP at W;obtain⟨bw,bm,bq,ce,eN⟩:=fh W;clear bw bm ce eN;have hlen:=h.len;obtain⟨a,c,rfl,kt,dM,aH⟩:=bz h.row;unfold maxLen at dM;have dX:=ag aH;have s:=ag (aN h (aN C (aN q cS)));clear h C q cS W aH;have Bq:=s.o.2.1.JP;have VG:=s.o.2.1.JQ;go_enter func276,ntmps276;go_wp2_with fail
 go_loopw [5,13] (λv i wr=>∃k,k<=l.length/\i=.int .i64 (k:Nat)/\eV w.heap.size wr v ((l.take k).filter (uz m))/\Below w.heap.size w wr) (λ_ i _=>l.length-(intOf i).toNat)
 case atStart=>exact⟨0,b6 _,rfl,(show eV w.heap.size w (.slice none 0 0) [] from hg _ _ _ _),ca _ _⟩
 case round=>
  obtain⟨k,ej,rfl,y,r⟩:=hrel;by_cases P:k<l.length
  .obtain⟨g,rfl⟩:=dX.o k P;obtain⟨cR,av,aD,cY⟩:=eV.cells (dI s.o.1.row r) k P;obtain⟨lh,fH⟩:=s.o.2.2.1 l[k] (dB P);have E:=ag (alZ (f:=uz m) P);obtain⟨x,X⟩:∃x,x=l[k]:=⟨_,rfl⟩;rw[<-X]at cR av aD cY lh fH E;obtain⟨b,q⟩:∃b:Nat,x.op.id.2=(b:Int):=⟨x.op.id.2.toNat,by omega⟩;have Hr:b<N:=by omega
   have Vo:(0:Int)<=(b:Int):=by simp
   have L9:(b:Int)<(N:Int):=by omega
   have BA:=(s.o.2.1.ak r).cells b Hr;have al1:=(s.o.2.1.ak r).lt;have tb:=r.size;have dG:g<wr.heap.size:=e7 wr _ cR;have jY:(0:Int)<=(k:Int):=by simp
   have dK:(k:Int)<(l.length:Int):=by omega
   have a1:=ag X;clear X;rw[q]at av;have z:=ag y;clear y;have M:=ag r;clear r;have vH:=World.new_ne wr ⟨gk,b,none⟩ BA;have kN:=ag (show uz m x=decide (m b<x.op.cb) by unfold uz;rw[q];rfl);have Cy:=ag q;obtain⟨B,Y⟩:∃B,B=(l.take k).filter (uz m):=⟨_,rfl⟩;rw[<-Y]at z E;have pb:B.length<=300:=by rw[Y];have h1:=r7 (uz m) (l.take k);rw[gU]at h1;omega
   clear Y;obtain⟨dQ,dL,rfl,AR,zJ,ys⟩:=bz z.o;clear ys;unfold maxLen at zJ;by_cases acd:m b<x.op.cb
   .rw[kN.o,nJ acd,bn rfl]at E;have b9:=ag (show Below wr.heap.size wr ((wr.alloc (.cells #[.int .i64 x.op.id.1,.int .i64 b,.int .i64 x.op.cb,.iface x.t x.v] 210)).alloc (.cells #[.int .i64 x.op.id.1,.int .i64 b,.int .i64 x.op.cb,.iface x.t x.v] 210)).drew from((aV wr _).alloc (by simp) _).drew);have My:=ag (show ∀j u,(ec x)[j]?=some u->((wr.alloc (.cells #[.int .i64 x.op.id.1,.int .i64 b,.int .i64 x.op.cb,.iface x.t x.v] 210)).alloc (.cells #[.int .i64 x.op.id.1,.int .i64 b,.int .i64 x.op.cb,.iface x.t x.v] 210)).drew.cell? ⟨wr.heap.size+1,j,none⟩=some u by have p:=Bh (wr.alloc (.cells #[.int .i64 x.op.id.1,.int .i64 b,.int .i64 x.op.cb,.iface x.t x.v] 210)) (.int .i64 x.op.id.1) (.int .i64 b) (.int .i64 x.op.cb) (.iface x.t x.v) 210;rw[show(wr.alloc (.cells #[.int .i64 x.op.id.1,.int .i64 b,.int .i64 x.op.cb,.iface x.t x.v] 210)).heap.size=wr.heap.size+1 by simp]at p;exact UH (w:=(_:World).drew) p.1 (Cy.o▸p.2.1) p.2.2.1 p.2.2.2)
    clear q;go_wp2_with fail
    go_region
    go_wp2_with (first
     |(at_builtin;refine CV ec 4 40 202 210 (.agg #[.int .i64 0,.int .i64 0,.int .i64 0,.nilIface]) (by rfl) underlying202 rfl (by omega) (λ_=>rfl) rfl (.tmp 26) (.tmp 28) rfl w.heap.size (.slice dQ B.length dL) B rfl (dI z.o b9.o) (wr.heap.size+1) 1 x rfl My.o (CW x) (by omega) (by unfold maxLen;omega) (by have :=b9.o.size;omega) ?_;intro v' w10 Hv E9 QI;have Mz:=ag Hv;have JM:=ag E9;clear Hv E9 QI)
     |fail)
    refine⟨⟨k+1,by omega,by go_num,?_,?_⟩,by simp[intOf];omega⟩
    .rw[E.o];show w10.ownsRow w.heap.size 210 4 v' (B++[x]).length ((B++[x]).flatMap ec);rw[dh]
     assumption
    have bo:=bp M.o b9.o;exact bo.grown JM.o bo.size (λk C=>(cX z.o k C).1)
   rw[kN.o,p2 acd]at E;clear q;go_wp2_with fail
   go_region
   go_wp2_with fail
   have eY:Below wr.heap.size wr (wr.alloc (.cells #[.int .i64 x.op.id.1,.int .i64 b,.int .i64 x.op.cb,.iface x.t x.v] 210)).drew:=(aV wr _).drew;refine⟨⟨k+1,by omega,by go_num,?_,bp M.o eY⟩,by simp[intOf];omega⟩;rw[E.o];rw[a7 (by decide),oM];exact dI z.o eY
  have iC:k=l.length:=by omega
  subst iC;rw[wv]at y;obtain⟨dQ,dL,rfl,_,_,_⟩:=bz y;have Pe:=ag (alU y (List.Nodup.sublist (List.filter_sublist.map _) s.o.2.2.2) (by have :=r7 (uz m) l;omega));have z:=ag y;clear y;have M:=ag r;clear r;go_wp2_with fail
  refine Pe.o.mono ?_;rintro e w1 ⟨rfl,L,Q,R,S,U⟩;have a1:=ag (aN Q (aN R (aN S U)));clear Q R S U;go_wp2;go_ret
  obtain⟨Q,R,S,U⟩:=a1.o;exact⟨_,L,rfl,S,Q,R,M.o.grown U M.o.size (λk C=>(cX z.o k C).1)⟩
end
