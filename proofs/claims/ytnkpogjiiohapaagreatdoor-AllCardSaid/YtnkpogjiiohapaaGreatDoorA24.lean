/- Our own text. -/
import Derived.Test.YtnkpogjiiohapaaGreatDoorA22
import Derived.Test.YtnkpogjiiohapaaGreatDoorA23
set_option linter.unusedSimpArgs false
set_option linter.unusedVariables false
set_option maxRecDepth 1000000
set_option maxHeartbeats 8000000
namespace Go.Proofs.YtnkpogjiiohapaaGreatDoor
section
open Go.RowKit Go.Conc Tryz
attribute [local go_sem ↓] Go.wp_at_zero Go.wp_at_succ
variable {a c d e f:Nat}{b:World}
theorem aoX {l:List Value} (h:iw b a c l false d e):
  O 157 #[Z a] b λf g=>(∃u,f=ad u)/\iw g a c l true d e/\aR (λk=>k=a\/k=c) b g:=by
 have q:b.cell? (H a)=some (.chan (some c)):=by simp[World.cell?,h.bb]
 have r:b.cell? (K a 1)=some (.bool false):=by simp[World.cell?,h.bb]
 have s:=aU h.bb;have t:=cV h.bb;have i:c≠a:=λf=>by have j:=h.mT;rw[f,h.bb]at j;cases j
 have m:(b.setCell (K a 1) (.bool true)).heap[c]?=some (.chan 12 l.toArray false d e false):=(dE i).trans h.mT;have v:=λp=>run_close_open (P:=prog) #[151] p m
 have n:=aN i m;go_enter func157,ntmps157;go_wp2;go_end0
 have w:(b.setCell (K a 1) (.bool true)).heap[a]?=some (.cells #[.chan (some c),.bool true] 153):=by show(b.heap.modify a _)[a]?=_;rw[D4,bn rfl,h.bb];rfl
 refine⟨⟨_,rfl⟩,⟨?_,?_,h.len⟩,⟨rfl,rfl,rfl,by simp,λk _ o=> ?_⟩⟩
 .rw[aga n.1];omega
 .rw[Array.getElem?_setIfInBounds_self,bn (aU n.2)]
 rw[aga λf=>o (.inr f.symm)];exact dE λf=>o (.inl f)
def DC (s:bx) (c d:Nat):bx:={s with sh:=upd s.sh c (upd (s.sh c) d true)}
theorem eC.aoY {P:World} {F I:Nat->Prop} {s:bx} {x:da} (h:eC b e F I d f s x) (r:a<d) (v:c<d) (w:a≠c) (hl:iw P (x.gl a c) (x.gc a c) (x.hh a c) true (x.tF a c) (x.vN a c)) (z:aR (λk=>k=x.gl a c\/k=x.gc a c) b P):eC P e F I d f (DC s a c) x:=by
 have Q:=(h.k5 a c r v w).bb;have pz:=(h.k5 a c r v w).mT;have Y:=h.dW a c r v w;have p:=λk hF q L=>z.other k (h.lt k hF) λi=>i.elim q L
 have hi:=λk c6=>z.other k (h.cI k c6) λi=>h.e0 k c6 (i.elim (λi=>i▸Y.1) λi=>i▸Y.2)
 have R:∀(k:Nat) (E:Array Value) (t:TypeId) (n:Nat×Nat),b.heap[k]?=some (.cells E t n)->k≠x.gc a c:=λk E t n p i=>by simp_all
 have adZ:∀(k:Nat) (E:Array Value) (t:TypeId) (n:Nat×Nat),b.heap[k]?=some (.cells E t n)->t≠153->k≠x.gl a c:=λk E t n p S i=>by simp_all
 obtain⟨es,aX,U⟩:=h.HL;have il:x.kY≠x.gc a c/\x.kY≠x.gl a c:=⟨λi=>(by have :=U.bb;simp_all),λi=>(by have :=U.bb;rw[i,Q]at this;cases this)⟩;obtain⟨cur,cH⟩:=b0 h.row (g:=x.dy) rfl;refine⟨by rw[p _ h.cc (adZ _ _ _ _ h.bb (by decide)) (R _ _ _ _ h.bb)];exact h.bb,cu h.row (λg aq=>by cases aq;exact p _ h.nn (adZ _ _ _ _ cH (by decide)) (R _ _ _ _ cH)),h.hN,λi M=>(h.fi i M).hA z.size (λk hF=>p k (h.sub i M k hF) (λo=>(h.nl i M a c r v w).1 (o▸hF)) λo=>(h.nl i M a c r v w).2 (o▸hF)) hi,h.lp,h.k9,h.pN,h.BJ,⟨es,aX,U.hU (p _ h.qv il.2 il.1)⟩,h.rH,h.Do,λj l B C D=> ?_,λj l B C D=>(h.vO j l B C D).imp λm u hm=>hm.fW hi z.size (λ_ y=>y),h.inj,h.sub,h.kD,h.qt,h.BK,h.rY,h.nl,h.cc,h.nn,h.qv,h.dW,λk W=>c0 (h.lt k W) z.size,h.e0,λk W=>c0 (h.cI k W) z.size⟩;by_cases i:j=a/\l=c
 .obtain⟨rfl,rfl⟩:=i;unfold DC;simp only[bL];exact hl
 have N:=h.k5 j l B C D;have S:x.gc j l≠x.gc a c:=λo=>i (h.inj j l a c B C D r v w o)
 have hng:x.gl j l≠x.gl a c:=λo=>by have q:=N.bb;rw[o,Q]at q;simp only[po,Obj.cells.injEq]at q;have L:=kq (λj=>j[0]?) q.1;simp at L;exact S L.symm
 have ov:x.gc j l≠x.gl a c:=λo=>by have q:=N.mT;rw[o,Q]at q;cases q
 have k3:=N.jy (p _ (h.dW j l B C D).1 hng (R _ _ _ _ N.bb)) (p _ (h.dW j l B C D).2 ov S);unfold DC;by_cases av:j=a
 .subst av;have X:l≠c:=λX=>i ⟨rfl,X⟩
  simp only[bL,ch _ _ X];exact k3
 simp only[ch _ _ av];exact k3
theorem aoZ {F I:Nat->Prop} {s:bx} {x:da} (h:eC b e F I d f s x) (n:a<d) (p:c<d) (q:a≠c):O 120 #[Z e,A a,A c] b λg w=>g=ad (A (if s.sh a c=true then 10 else 0))/\yJ e d f F I b w (if s.sh a c=true then s else DC s a c):=by
 have t:=MR h n p q;have r:=h.k5 a c n p q;have v:b.cell? (K (x.gl a c) 1)=some (.bool (s.sh a c)):=by simp[World.cell?,r.bb]
 by_cases m:s.sh a c=true
 .rw[m]at v;rw[bn m,bn m];have l:=ag h;go_enter func120,ntmps120;go_wp2_with fail
  refine t.mono ?_;rintro g y ⟨rfl,rfl⟩;go_wp2;go_ret
  exact⟨rfl,l.o.same (ca _ _)⟩
 have z:s.sh a c=false:=by simp_all
 rw[z]at v r;rw[a7 m,a7 m];have l:=ag h;go_enter func120,ntmps120;go_wp2_with fail
 refine t.mono ?_;rintro g y ⟨rfl,rfl⟩;go_wp2_with fail
 refine(aoX r).mono ?_;rintro g D ⟨⟨u,rfl⟩,B,C⟩;have j:=aN B C;go_wp2;go_ret
 have E:=l.o.dW a c n p q;refine⟨rfl,F,I,x,l.o.aoY n p q j.1 j.2,⟨j.2.os,j.2.tape,j.2.output,j.2.size,λk i hF=>j.2.other k i λg=> ?_,λk i=>.inl i⟩,λk i=>⟨i,j.2.other k (l.o.cI k i) λg=>l.o.e0 k i ?_⟩,λ_ i=>.inl i⟩
 .rcases g with g|g
  .simp_all
  simp_all
 rcases g with g|g
 .simp_all
 simp_all
end
section
variable {a b f:Nat}{d:Nat->List ay}{e:bx}{h:List ay}{i:Nat->Nat}
theorem ao0{a b:List PId}(c:(h.map fe).Sublist (a++b))(i:(a++b).Nodup):∃x y,h=x++y/\(x.map fe).Sublist a/\(y.map fe).Sublist b/\yz h a=x.length:=by
 obtain⟨l,m,e,f,g⟩:=List.sublist_append_iff.1 c;obtain⟨x,y,rfl,rfl,rfl⟩:=atQ.1 e;refine⟨x,y,rfl,f,g,?_⟩;unfold yz;have j:∀o∈x,(λo=>decide (fe o∈a)) o=true:=λo d=>nJ (f.subset (K3 d))
 have n:∀o∈y,¬fe o∈a:=λo d k=>(nI.1 i).2.2 _ k _ (g.subset (K3 d)) rfl
 rw[List.takeWhile_append_of_pos j];cases y with
 |nil=>simp
 |cons o y=>rw[Zc,a7 (by simp_all)];simp
theorem ad0{b:List ay}{a:List PId}(h:(b.map fe).Sublist a)(n:a.Nodup):∀k:Nat,(∃y,b.drop (m7 b a (List.range k)).1=y/\(y.map fe).Sublist (a.drop (8*k))/\∀o∈b,fe o∈a.drop (8*k)->o∈y)/\∀j (l:j<(m7 b a (List.range k)).2.length),∀o,o∈(b.drop (m7 b a (List.range k)).2[j].1).take (m7 b a (List.range k)).2[j].2↔(o∈b/\fe o∈partOf a j)
 |0=>⟨⟨b,rfl,by simp_all,λo c _=>c⟩,λj l=>by contradiction⟩
 |k+1=>by
  obtain⟨⟨y,e,p,r⟩,l⟩:=ad0 h n k;have m:a.drop (8*k)=partOf a k++a.drop (8*(k+1)):=by unfold partOf;rw[show 8*(k+1)=8*k+8 by omega,<-List.drop_drop,za]
  have s:(partOf a k++a.drop (8*(k+1))).Nodup:=by rw[<-m];exact n.sublist (List.drop_sublist _ _)
  rw[m]at p;obtain⟨x,z,d,f,g,w⟩:=ao0 p s;have B:∀o∈y,o∈b:=λo c=>by rw[<-e]at c;exact tS c
  have t:=λq f g=>(nI.1 s).2.2 q f q g rfl
  rw[mM,ack,e,w];refine⟨⟨z,?_,g,λo c i=> ?_⟩,λj C o=> ?_⟩
  .rw[<-List.drop_drop,e,d,List.drop_left]
  .have :=r o c (by simp_all);rw[d]at this;rcases dZ.1 this with h|h
   .exact absurd i (t _ (f.subset (K3 h)))
   exact h
  simp only[dh,iq,sa]at C;by_cases u:j<(m7 b a (List.range k)).2.length
  .simp only[Cf u];exact l j u o
  have v:j=(m7 b a (List.range k)).2.length:=by omega
  have D:j=k:=by rw[v,QQ b a (List.range k),ww]
  subst v;simp only[af5];rw[e,d,List.take_left,D];refine⟨λc=>⟨B o (by rw[d];exact p3 _ c),f.subset (K3 c)⟩,λ⟨c,i⟩=> ?_⟩;have :=r o c (by rw[m];exact p3 _ i);rw[d]at this;rcases dZ.1 this with h|h
  .exact h
  exact absurd (g.subset (K3 h)) (t _ i)
theorem WY{f:Int}{k:PId}:k∈uA a f b↔k.1=(a:Int)/\f<k.2/\k.2<=f+b:=by
 unfold uA;simp only[dF,rA];constructor
 .rintro⟨j,d,rfl⟩;omega
 rintro⟨c,e,g⟩;exact⟨(k.2-f-1).toNat,by omega,by rw[<-c];exact S5 rfl (by omega)⟩
theorem WZ{e f:Nat->Int}{k:PId}:∀{n:Nat},k∈l4 e f n↔∃c:Nat,c<n/\k.1=(c:Int)/\e c<k.2/\k.2<=f c:=by
 intro n;unfold l4;simp only[lg,rA,WY];constructor
 .rintro⟨c,a,b,d,g⟩;exact⟨c,a,b,d,by omega⟩
 rintro⟨c,a,b,d,g⟩;exact⟨c,a,b,d,by omega⟩
def H7 (l:List PId):Prop:=l.Pairwise λa b=>gj a b=true
theorem ad2(c:Nat)(f:Int):∀n,H7 (uA c f n)
 |0=>by simp[H7,uA]
 |n+1=>by rw[acg];refine xQ.2 ⟨ad2 c f n,OJ _ _,λa d b e=> ?_⟩;obtain rfl:=fR.1 e;obtain⟨g,h,i⟩:=WY.1 d;rw[rU];omega
theorem W0(d e:Nat->Int):∀n,H7 (l4 d e n)
 |0=>by simp[H7,l4]
 |n+1=>by rw[QM];refine xQ.2 ⟨W0 d e n,ad2 _ _ _,λa f b g=> ?_⟩;obtain⟨c,h,i,_⟩:=WZ.1 f;obtain⟨j,_⟩:=WY.1 g;rw[rU];omega
theorem ao1{l}(h:H7 l):l.Nodup:=h.imp λ{a b} h e=>by subst e;rw[yq]at h;cases h
theorem W1:∀{l m:List PId},H7 l->H7 m->(∀x∈l,x∈m)->l.Sublist m
 |[],m,_,_,_=>List.nil_sublist _
 |a::l,[],_,_,h=>absurd (h a kH) (by simp)
 |a::l,b::m,f,k,h=>by
  obtain⟨g,n⟩:=s9.1 f;obtain⟨o,i⟩:=s9.1 k;by_cases e:a=b
  .subst e;refine(W1 n i λx c=> ?_).cons_cons a;rcases ft.1 (h x (jk _ c)) with d|d
   .have :=g x c;rw[d,yq]at this;cases this
   omega
  refine(W1 f i λx c=> ?_).cons b;rcases ft.1 (h x c) with d|d
  .subst d;exfalso;have p:a∈m:=by simp_all
   rcases ft.1 c with j|j
   .simp_all
   have :=EX (g x j) (o a p);rw[yq]at this;cases this
  omega
structure bP where
 P:Nat->List bT
 ai:Nat->Nat->Nat
 en:Nat->List (Nat×Nat)
 df:Nat->Nat->Nat
 bC:Nat->Nat->Nat->Nat
 ms:Nat->Nat->List la
 sh:Nat->Nat->Bool
variable {c:bP}
def BW (a:Nat->Nat):iv->la->Prop
 |.inl l,m=>m.q=true/\l=m.cF.map λ(n:Nat)=>(n:Int)
 |.inr b,m=>m.q=false/\∀i n:Nat,a i<n->((i,n)∈m.oG↔∃x∈b,fe x=((i:Int),(n:Int)))
structure Rel (N:Nat) (M:Nat->List ay) (s:bx) (S:bP):Prop where
 bJ:∀c,c<N->(M c).map (λo=>fZ o.op)=S.P c
 ai:∀c,c<N->∀i,i<N->s.ai c i=(S.ai c i:Int)
 gt:∀c,c<N->s.gt c=ct ((s.ar c).map λo=>fZ o.op)
 en:∀c,c<N->∀i n:Nat,i<N->S.ai c i<n->((i,n)∈S.en c↔(bV ((i:Int),(n:Int)) (s.bt c)).isSome=true)
 ms:∀c d,c<N->d<N->c≠d->eW (BW (S.ai d)) (s.ms c d) (S.ms c d)
 sh:∀c d,c<N->d<N->c≠d->s.sh c d=S.sh c d
 ic:∀c d,c<N->d<N->c≠d->∀i,i<N->s.ic c d i=(S.bC c d i:Int)
 uO:∀c d i,c<N->d<N->i<N->S.df c i<=S.ai d i
theorem BW.more{ai c:Nat->Nat}(h:∀i,ai i<=c i):∀{a:iv} {b:la},BW ai a b->BW c a b
 |.inl _,_,k=>k
 |.inr _,_,k=>⟨k.1,λi n d=>k.2 i n (Zd (h i) d)⟩
theorem eW.ad3 {α β:Type} {R:α->β->Prop}:∀{l:List α} {m:List β},l.length=m.length->(∀i (c:i<l.length) (d:i<m.length),R l[i] m[i])->eW R l m
 |[],[],_,_=>trivial
 |[],_::_,h,_=>by simp at h
 |_::_,[],h,_=>by simp at h
 |a::l,b::m,h,k=>⟨k 0 (by simp) (by simp),eW.ad3 (by simp_all) λi c d=>k (i+1) (by simp_all) (by simp_all)⟩
def pV (a:Bool):List la->List la->List la
 |l,[]=>l
 |l,m::b=>pV a (if a=true\/12<=l.length then l else l++[m]) b
theorem RC{R:iv->la->Prop}(d:Bool):∀{bs:List iv} {us:List la} {a:List iv} {f:List la},a.length<=12->eW R a f->eW R bs us->eW R (yK d a bs) (pV d f us)
 |[],[],_,_,_,h,_=>by unfold yK;split <;>exact h
 |[],_::_,_,_,_,_,c=>c.elim
 |_::_,[],_,_,_,_,c=>c.elim
 |b::bs,u::us,a,f,g,h,c=>by
  have j:=h.len;cases d with
  |true=>have ih:=RC true (bs:=bs) (us:=us) g h c.2;unfold yK at ih⊢;rw[bn rfl]at ih⊢;unfold pV;rw[bn (.inl rfl)];exact ih
  |false=>
   unfold pV;have e:yK false a (b::bs)=yK false (if a.length=12 then a else a++[b]) bs:=rfl;rw[e];by_cases i:a.length=12
   .rw[bn i,bn (.inr (by omega))];exact RC false g h c.2
   rw[a7 i,a7 (by simp;omega)];exact RC false (by simp;omega) (eW.snoc c.1 h) c.2
def ht (S:bP) (c d:Nat) (l:List la):bP:={S with ms:=upd S.ms c (upd (S.ms c) d l)}
theorem Rel.kl{N M s S l g}(h:Rel N M s S){c d:Nat}(n:c<N)(o:d<N)(p:c≠d)(m:eW (BW (S.ai d)) l g):Rel N M (kl s c d l) (ht S c d g):=by
 refine⟨h.bJ,h.ai,h.gt,h.en,λa b i j k=> ?_,h.sh,h.ic,h.uO⟩;unfold Go.Proofs.YtnkpogjiiohapaaGreatDoor.kl ht;simp only;by_cases e:a=c
 .subst e;by_cases f:b=d
  .subst f;rw[bL,bL,bL,bL];exact m
  rw[bL,ch _ _ f,bL,ch _ _ f];exact h.ms a b i j k
 rw[ch _ _ e,ch _ _ e];exact h.ms a b i j k
def DD (N:Nat) (S:bP) (c d:Nat):bP:=if S.sh c d=true\/12<=(S.ms c d).length then S else ht S c d (S.ms c d++[⟨true,(List.range N).map (S.ai c),[]⟩])
theorem Rel.ask(h:Rel f d e c)(j:a<f)(l:b<f)(m:a≠b)(q:(e.ms a b).length<=12):Rel f d (Fk f e a b) (DD f c a b):=by
 have n:=h.ms a b j l m;have r:=n.len;have s:=h.sh a b j l m;unfold Fk DD;by_cases k:e.sh a b=true\/(e.ms a b).length=12
 .rw[bn k,bn (k.imp (λg=>by simp_all) (λg=>by omega))];exact h
 rw[a7 k,a7 (λo=>k (o.imp (λg=>by simp_all) (λg=>by omega)))];refine h.kl j l m (eW.snoc (show BW (c.ai b) (.inl _) _ from⟨rfl,?_⟩) n);rw[rz];exact F8 λi p=>h.ai a j i (rA.1 p)
def H8 (S:bP) (c d:Nat):bP:=ht S c d (S.ms c d).tail
theorem Rel.Fq(h:Rel f d e c)(i:a<f)(j:b<f)(k:a≠b):Rel f d (Dq e a b) (if c.ms a b=[] then c else H8 c a b):=by
 have g:=h.ms a b i j k;unfold Dq H8
 match n:e.ms a b,o:c.ms a b,g with
 |[],[],_=>simp_all
 |m::l,p::q,g=>rw[a7 (by simp)];exact h.kl i j k g.2
def DE (S:bP) (c d:Nat):bP:=match S.ms c d with
 |[]=>S
 |m::l=>if S.sh c d=true then S else ht S c d (l++[m])
theorem Rel.later(h:Rel f d e c)(i:a<f)(j:b<f)(k:a≠b):Rel f d (Fm e a b) (DE c a b):=by
 have g:=h.ms a b i j k;unfold Fm DE
 match n:e.ms a b,o:c.ms a b,g with
 |[],[],_=>exact h
 |m::l,p::q,g=>
  simp only[h.sh a b i j k];split
  .exact h
  exact h.kl i j k (eW.snoc g.1 g.2)
def DF (S:bP) (c d:Nat):bP:=match S.ms c d with
 |[]=>S
 |m::l=>if S.sh c d=true\/11<=l.length then S else ht S c d (m::l++[m])
theorem Rel.again(h:Rel f d e c)(k:a<f)(n:b<f)(o:a≠b)(p:(e.ms a b).length<=12):Rel f d (Fo e a b) (DF c a b):=by
 have i:=h.ms a b k n o;unfold Fo DF
 match r:e.ms a b,u:c.ms a b,i with
 |[],[],_=>exact h
 |m::l,q::s,i=>
  have v:=eW.len i.2;rw[r]at p;simp only[iq]at p;simp only[h.sh a b k n o];by_cases j:c.sh a b=true\/l.length=11
  .rw[bn j,bn (j.imp id λg=>by omega)];exact h
  rw[a7 j,a7 (λt=>j (t.imp id λg=>by omega))];exact h.kl k n o (show eW _ ((m::l)++[m]) ((q::s)++[q]) from eW.snoc i.1 i)
def BX (S:bP) (c d:Nat):bP:={S with sh:=upd S.sh c (upd (S.sh c) d true)}
theorem Rel.shut{s S}(h:Rel b d s S){c:Nat}(m:c<b)(n:a<b)(o:c≠a):Rel b d (DC s c a) (BX S c a):=by
 refine⟨h.bJ,h.ai,h.gt,h.en,h.ms,λe f j k l=> ?_,h.ic,h.uO⟩;unfold DC BX;simp only;by_cases g:e=c
 .subst g;by_cases i:f=a
  .subst i;rw[bL,bL,bL,bL]
  rw[bL,ch _ _ i,bL,ch _ _ i];exact h.sh e f j k l
 rw[ch _ _ g,ch _ _ g];exact h.sh e f j k l
theorem Ni{N M}(c:j5 N M){ai:Nat->Int}(k:PId)(o:pC):∀(xs:List ay) (m:List (PId×ay)),uB N M m->(∀x∈xs,oE N M x)->
  ((bV k (jL ai m xs)).map (·.op)=some o↔(∃x∈xs,fe x=k/\ai x.op.id.2.toNat<x.op.cb/\x.op=o)\/(bV k m).map (·.op)=some o)
 |[],m,_,_=>by show((bV k m).map (·.op)=some o↔_);simp
 |x::xs,m,d,l=>by
  have n:=λy a=>l y (jk _ a)
  have e:jL ai m (x::xs)=jL ai (if ai x.op.id.2.toNat<x.op.cb then dj (fe x) x m else m) xs:=rfl;rw[e];by_cases f:ai x.op.id.2.toNat<x.op.cb
  .rw[bn f];have q:uB N M (dj (fe x) x m):=by
    have :=uB.all (ai:=ai) (xs:=[x]) d (λy a=>by simp_all);have s:jL ai m [x]=dj (fe x) x m:=by
     show(if ai x.op.id.2.toNat<x.op.cb then dj (fe x) x m else m)=_
     simp_all
    simp_all
   rw[Ni c k o xs _ q n,je];constructor
   .rintro(⟨y,a,h⟩|h)
    .exact .inl ⟨y,jk _ a,h⟩
    by_cases p:k=fe x
    .simp_all
    simp_all
   rintro(⟨y,a,g,b,i⟩|h)
   .rcases ft.1 a with rfl|a
    .simp_all
    exact .inl ⟨y,a,g,b,i⟩
   right
   by_cases p:k=fe x
   .rw[bn p];cases j:bV k m with
    |none=>rw[j]at h;cases h
    |some y=>rw[j]at h;obtain⟨r,t⟩:=d _ (gZ j);have :y=x:=c.acI r (l x kH) (by simp_all);rw[<-this];exact h
   simp_all
  rw[a7 f,Ni c k o xs m d n];constructor
  .rintro(⟨y,a,h⟩|h)
   .exact .inl ⟨y,jk _ a,h⟩
   simp_all
  rintro(⟨y,a,g,b,i⟩|h)
  .rcases ft.1 a with rfl|a
   .exact absurd b f
   exact .inl ⟨y,a,g,b,i⟩
  exact .inr h
theorem ad4:∀(a:List ay) (g:Int),o7 g a=g\/∃x∈a,o7 g a=x.op.id.1
 |[],g=>.inl rfl
 |y::a,g=>by
  have e:o7 g (y::a)=o7 (max g y.op.id.1) a:=rfl;rw[e];rcases ad4 a (max g y.op.id.1) with h|⟨x,b,h⟩
  .rw[h];by_cases c:g<=y.op.id.1
   .exact .inr ⟨y,kH,by omega⟩
   omega
  exact .inr ⟨x,jk _ b,h⟩
theorem ao2 {a:List ay}:ct ((kk h a).map λo=>fZ o.op)=o7 (ct (h.map λo=>fZ o.op)) a:=by
 obtain⟨m,f,i⟩:=LA ((kk h a).map λo=>fZ o.op);obtain⟨n,j,k⟩:=LA (h.map λo=>fZ o.op);obtain⟨q,r⟩:=Q2 a (ct (h.map λo=>fZ o.op));have c:∀y,y∈kk h a↔y∈a\/y∈h:=λy=>by rw[(EY a h).mem_iff,dZ]
 refine Int.le_antisymm ?_ ?_
 .rcases i with e|⟨p,d,e⟩
  .omega
  obtain⟨y,b,rfl⟩:=dF.1 d;rw[<-e,rf];rcases(c y).1 b with b|b
  .simp_all
  have :=j _ (dF.2 ⟨y,b,rfl⟩);rw[rf]at this;omega
 rcases ad4 a (ct (h.map λo=>fZ o.op)) with e|⟨x,l,e⟩
 .rw[e];rcases k with g|⟨p,d,g⟩
  .omega
  obtain⟨y,b,rfl⟩:=dF.1 d;rw[<-g];exact f _ (dF.2 ⟨y,(c y).2 (.inr b),rfl⟩)
 rw[e];have :=f _ (dF.2 ⟨x,(c x).2 (.inl l),rfl⟩);rw[rf]at this;exact this
def Kd (b:Nat->Nat) (a:List (Nat×Nat)) (f:Nat×Nat):List (Nat×Nat):=if b f.1<f.2/\f∉a then a++[f] else a
def n7 (a:Nat->Nat) (b l:List (Nat×Nat)):List (Nat×Nat):=l.foldl (Kd a) b
theorem ad5{b:Nat->Nat}{f:Nat×Nat}:∀{l a:List (Nat×Nat)},f∈n7 b a l↔f∈a\/(f∈l/\b f.1<f.2)
 |[],a=>by simp[n7]
 |g::l,a=>by
  have e:n7 b a (g::l)=n7 b (Kd b a g) l:=rfl;rw[e,ad5 (l:=l)];unfold Kd;split
  .rename_i c
   rw[dZ,fR,ft];constructor
   .rintro((h|rfl)|h)
    .simp_all
    .simp_all
    simp_all
   rintro(h|⟨rfl|h,d⟩)
   .simp_all
   .simp
   simp_all
  rename_i c
  rw[ft];constructor
  .rintro(h|h)
   .simp_all
   simp_all
  rintro(h|⟨rfl|h,d⟩)
  .simp_all
  .simp_all
  simp_all
def runN (a:List (Nat×Nat)) (d:Nat):Nat->Nat->Nat
 |n,0=>n
 |n,f+1=>if(d,n+1)∈a then runN a d (n+1) f else n
theorem ad6(a:List (Nat×Nat))(d:Nat):∀(f n:Nat),n<=runN a d n f
 |0,n=>bW _
 |f+1,n=>by
  unfold runN;split
  .exact cd (oe _) (ad6 a d f (n+1))
  simp
theorem ad7{c:List (Nat×Nat)}{m:List (PId×ay)}{d b:Nat}(h:∀n,b<n->((d,n)∈c↔(bV ((d:Int),(n:Int)) m).isSome=true)):∀(f n:Nat),b<=n->((runN c d n f:Nat):Int)=(n:Int)+((j3 m (d:Int) (n:Int) f).length:Int)
 |0,n,_=>by rfl
 |f+1,n,i=>by
  have a:=h (n+1) (by omega);have e:((n+1:Nat):Int)=(n:Int)+1:=by omega
  rw[e]at a;unfold runN j3;cases g:bV ((d:Int),(n:Int)+1) m with
  |none=>rw[g]at a;rw[a7 (λj=>by simp_all)];simp
  |some o=>rw[g]at a;rw[bn (a.2 rfl),ad7 h f (n+1) (by omega),e];simp only[iq];omega
def xA (S:bP) (c:Nat) (l:List (Nat×Nat)):bP:={S with ai:=upd S.ai c λd=>runN (n7 (S.ai c) (S.en c) l) d (S.ai c d) 61,en:=upd S.en c ((n7 (S.ai c) (S.en c) l).filter λf=>decide (runN (n7 (S.ai c) (S.en c) l) f.1 (S.ai c f.1) 61<f.2))}
theorem Rel.hear{m k}(f:Rel b d e c)(ok:ed b d e)(v:a<b)(z:∀x∈h,oE b d x)(N:BW (c.ai a) (.inr h) m)(S:yv (pP e a h) (uw (pP e a h) (e.ai a) b) k):Rel b d (uD b e a h k) (xA c a m.oG):=by
 have D:=(ok.copy a v).J3;have P:∀i,i<b->∀n,c.ai a i<n->((i,n)∈n7 (c.ai a) (c.en a) m.oG↔(bV ((i:Int),(n:Int)) (pP e a h)).isSome=true):=λi r n s=>by
  have B:e.ai a i<(n:Int):=by rw[f.ai a v i r];omega
  have U:(bV ((i:Int),(n:Int)) (pP e a h)).isSome=true↔∃o,(bV ((i:Int),(n:Int)) (pP e a h)).map (·.op)=some o:=by cases bV ((i:Int),(n:Int)) (pP e a h)<;>simp
  have W:(bV ((i:Int),(n:Int)) (e.bt a)).isSome=true↔∃o,(bV ((i:Int),(n:Int)) (e.bt a)).map (·.op)=some o:=by cases bV ((i:Int),(n:Int)) (e.bt a)<;>simp
  rw[ad5,U,f.en a v i n r s,W];constructor
  .rintro(⟨o,w⟩|⟨X,_⟩)
   .exact⟨o,(Ni ok.bJ _ o h _ D z).2 (.inr w)⟩
   obtain⟨x,E,C⟩:=(N.2 i n s).1 X;refine⟨x.op,(Ni ok.bJ _ _ h _ D z).2 (.inl ⟨x,E,C,?_,rfl⟩)⟩;unfold fe at C
   simp_all
  rintro⟨o,w⟩;rcases(Ni ok.bJ _ o h _ D z).1 w with⟨x,E,C,_,_⟩|w
  .exact .inr ⟨(N.2 i n s).2 ⟨x,E,C⟩,s⟩
  exact .inl ⟨o,w⟩
 have Y:hasAll (e.ai a) (qy b e a h)=uC (pP e a h) (e.ai a) b:=MT (ok.en v z).1 b (bW _);have Q:∀i,i<b->uC (pP e a h) (e.ai a) b i=((runN (n7 (c.ai a) (c.en a) m.oG) i (c.ai a i) 61:Nat):Int):=λi r=>by unfold uC;rw[bn r,ad7 (P i r) 61 (c.ai a i) (bW _),f.ai a v i r]
 have F:∀i,c.ai a i<=runN (n7 (c.ai a) (c.en a) m.oG) i (c.ai a i) 61:=λi=>ad6 _ _ _ _
 refine⟨f.bJ,λg u i r=> ?_,λg u=> ?_,λg u i n r s=> ?_,λp l I B c8=> ?_,f.sh,f.ic,λp l i I B r=> ?_⟩
 .unfold uD nB xA;simp only;by_cases t:g=a
  .subst t;rw[bL,bL,Y];exact Q i r
  rw[ch _ _ t,ch _ _ t];exact f.ai g u i r
 .unfold uD nB;simp only;by_cases t:g=a
  .subst t;rw[bL,bL,f.gt g u];exact ao2.symm
  rw[ch _ _ t,ch _ _ t];exact f.gt g u
 .unfold xA at s⊢;unfold uD nB;simp only at s⊢;by_cases t:g=a
  .subst t;rw[bL]at s;rw[bL,bL,p4];have fo:((i:Int),(n:Int))∉uw (pP e g h) (e.ai g) b:=λL=>by
    obtain⟨j,aB,L⟩:=lg.1 L;obtain⟨q,aw,k⟩:=dF.1 L;have av:(j:Int)=(i:Int):=kq Prod.fst k;have aD:=kq Prod.snd k;obtain rfl:j=i:=by omega
    have R:=Q j r;unfold uC at R;rw[bn r]at R;have h2:=rA.1 aw;omega
   rw[S.rH _ fo,P i r n (Zd (F i) s)];constructor
   .exact λM=>M.1
   exact λM=>⟨M,nJ s⟩
  rw[ch _ _ t]at s;rw[ch _ _ t,ch _ _ t];exact f.en g u i n r s
 .have :=f.ms p l I B c8;unfold uD nB xA;simp only;by_cases y:l=a
  .subst y;rw[bL];exact eW.imp (λ_ _=>BW.more F) this
  rw[ch _ _ y];exact this
 have :=f.uO p l i I B r;unfold xA;simp only;by_cases y:l=a
 .subst y;rw[bL];exact cd this (F i)
 rw[ch _ _ y];exact this
def n8 (cF ai:Nat->Nat) (n:Nat):List (Nat×Nat):=(List.range n).flatMap λd=>(List.range (ai d-cF d)).map λj=>(d,cF d+1+j)
def ad8 (f:Nat×Nat):PId:=((f.1:Int),(f.2:Int))
theorem ad9{a b:Nat->Nat}{c d:Nat->Int}{N:Nat}(e:∀i,i<N->c i=(a i:Int))(f:∀i,i<N->d i=(b i:Int)):∀n,n<=N->l4 c d n=(n8 a b n).map ad8
 |0,_=>rfl
 |n+1,g=>by rw[QM,ad9 e f n (by omega)];unfold n8;rw[mM,oL,ga];congr 1;simp only[jI,SY,oM];rw[rz,e n (by omega),f n (by omega),show((b n:Int)-(a n:Int)).toNat=b n-a n by omega];rfl
def tM (N:Nat) (cF a b:Nat->Nat):List la:=(List.range (min (chunks (n8 cF a N).length) 3)).map λj=>⟨false,[],(((n8 cF a N).drop (8*j)).take 8).filter λf=>decide (b f.1<f.2)⟩
theorem ao4 {c d:Nat->Nat} (e:b<(tM a i c d).length):(tM a i c d)[b]=⟨false,[],(((n8 i c a).drop (8*b)).take 8).filter λf=>decide (d f.1<f.2)⟩:=by
 have g:b<min (chunks (n8 i c a).length) 3:=by
  have :=e;unfold tM at this
  simp_all
 have h:(tM a i c d)[b]?=some ⟨false,[],(((n8 i c a).drop (8*b)).take 8).filter λf=>decide (d f.1<f.2)⟩:=by
  unfold tM
  simp_all
 simp_all
theorem Rel.ao5(o:Rel b d e c)(ok:ed b d e)(w:f<b)(q:a<b){l:List Int}(R:∀g,g<b->rowOf l g=(i g:Int))(y:h.Perm ((e.kept a).filter (uz (rowOf l))))(S:Bz h):
  eW (BW (c.ai f)) ((JZ h (rowOf l) (e.ai a) b).map (ML h)) (tM b i (c.ai a) (c.df a)):=by
 have U:=ad9 R (λg W=>o.ai a q g W) b (bW _);have X:(h.map fe).Sublist (l4 (rowOf l) (e.ai a) b):=by
  refine W1 (ry.2 S) (W0 _ _ _) λk z=> ?_
  obtain⟨x,B,rfl⟩:=dF.1 z;obtain⟨E,v⟩:=p4.1 (y.mem_iff.1 B);have t:x∈e.ar a:=by rw[ok.k9 a q];simp_all
  obtain⟨m,r,Y⟩:=J4.1 ((ok.copy a q).perm.mem_iff.1 t);obtain⟨j,aB,F⟩:=mm.1 Y;rw[gU]at aB;rw[K1]at F;obtain⟨s,u,g3⟩:=ok.bJ.id m r j (by omega);rw[F]at s u;have I:=S6 v;refine WZ.2 ⟨m,r,s,?_,?_⟩
  .rw[s]at I;exact I
  show x.op.cb<=e.ai a m;omega
 have hq:=ad0 X (ao1 (W0 _ _ _)) (min (chunks (l4 (rowOf l) (e.ai a) b).length) 3);have hlen:(l4 (rowOf l) (e.ai a) b).length=(n8 i (c.ai a) b).length:=by simp_all
 refine eW.ad3 ?_ λj L h2=> ?_
 .unfold JZ tM;rw[c2,c2,QQ,hlen]
 rw[c2]at L;rw[pn,ao4 h2];have M:=hq.2 j L;refine⟨rfl,λg n hn=> ?_⟩;show(g,n)∈(((n8 i (c.ai a) b).drop (8*j)).take 8).filter _↔_;have MG:partOf (l4 (rowOf l) (e.ai a) b) j=(((n8 i (c.ai a) b).drop (8*j)).take 8).map ad8:=by unfold partOf;rw[U,<-afT,<-Cd]
 have ao6:((g:Int),(n:Int))∈partOf (l4 (rowOf l) (e.ai a) b) j↔(g,n)∈((n8 i (c.ai a) b).drop (8*j)).take 8:=by
  rw[MG,dF];constructor
  .rintro⟨p,C,m⟩;have D:(p.1:Int)=(g:Int):=kq Prod.fst m;have N:(p.2:Int)=(n:Int):=kq Prod.snd m;have :p=(g,n):=S5 (by simp;omega) (by simp;omega);rw[<-this];exact C
  exact λC=>⟨(g,n),C,rfl⟩
 rw[p4,<-ao6];constructor
 .rintro⟨P,_⟩;have jB:((g:Int),(n:Int))∈l4 (rowOf l) (e.ai a) b:=by exact tS (mo P)
  obtain⟨m,r,D,N,cY⟩:=WZ.1 jB;have FJ:=D;obtain rfl:g=m:=by omega
  have BY:=N;have e3':=cY;have bU:=(ok.copy a q).l3 g r;have ma:n-1<(d g).length:=by omega
  obtain⟨s,u,g3⟩:=ok.bJ.id g r (n-1) ma;have t:(d g)[n-1]∈e.ar a:=by refine(ok.copy a q).perm.mem_iff.2 (J4.2 ⟨g,r,?_⟩);refine mm.2 ⟨n-1,by rw[gU];omega,by rw[K1]⟩
  have Q:fe (d g)[n-1]=((g:Int),(n:Int)):=S5 s (by show(d g)[n-1].op.cb=(n:Int);rw[u];omega);refine⟨(d g)[n-1],(M _).2 ⟨y.mem_iff.2 (p4.2 ⟨?_,?_⟩),by rw[Q];exact P⟩,Q⟩
  .rw[ok.k9 a q]at t;rcases dZ.1 t with aq|z
   .exfalso;have :=ok.BO a q _ aq f w;rw[s,xP,u,o.ai f w g r]at this;omega
   exact z
  refine nJ ?_;rw[s,xP,u];omega
 rintro⟨x,B,m⟩;obtain⟨E,v⟩:=(M x).1 B;rw[m]at v;refine⟨v,nJ ?_⟩;have Ke:g<b:=by
  obtain⟨zW,_⟩:=p4.1 (y.mem_iff.1 E);have t:x∈e.ar a:=by rw[ok.k9 a q];exact Gc _ zW
  obtain⟨_,_,hT,MW⟩:=ok.bJ.cb ((ok.copy a q).bJ t);have D:x.op.id.2=(g:Int):=kq Prod.fst m;omega
 exact Zd (o.uO a f g q w Ke) hn
def yN (S:bP) (d c:Nat) (a:Nat->Nat):bP:={S with bC:=upd S.bC d (upd (S.bC d) c λi=>max (S.bC d c i) (a i))}
def pk (N:Nat) (S:bP) (c d:Nat):bP:=match S.ms c d with
 |[]=>S
 |m::a=>if m.q=true then ht (yN (ht S c d a) d c λi=>m.cF.getD i 0) d c (pV (S.sh d c) (S.ms d c) (tM N (λi=>m.cF.getD i 0) (S.ai d) (S.df d))) else xA (ht S c d a) d m.oG
theorem Rel.Du{I}(h:Rel f d e c)(ok:ed f d e)(p:a<f)(o:b<f)(q:a≠b)(N:(e.ms b a).length<=12)(r:vQ f e a b I):Rel f d I (pk f c a b):=by
 have s:=h.ms a b p o q;have x:=ok.msgs a b p o q;have q1:=ok.uE a b p o q;unfold vQ at r;unfold pk
 match k:e.ms a b,W:c.ms a b,s with
 |[],[],_=>simp_all
 |.inl l::v,m::L,s=>
  rw[k]at r;obtain⟨X,P,t,rfl⟩:=r;obtain⟨⟨w,y⟩,z⟩:=s;simp only[w,hQ];have M:∀i,i<f->rowOf l i=((m.cF.getD i 0:Nat):Int):=λi u=>by rw[y];unfold rowOf;simp only[List.getD,Av];cases m.cF[i]?<;>rfl
  have n:=h.kl p o q z;have Q:Rel f d (HP (Go.Proofs.YtnkpogjiiohapaaGreatDoor.kl e a b v) b a (rowOf l)) (yN (ht c a b L) b a λi=>m.cF.getD i 0):=by
   refine⟨n.bJ,n.ai,n.gt,n.en,n.ms,n.sh,λg j t B C i u=> ?_,n.uO⟩;unfold HP yN;simp only;by_cases D:g=b
   .subst D;by_cases E:j=a
    .subst E;rw[bL,bL,bL,bL,n.ic g j t B C i u,M i u];omega
    rw[bL,ch _ _ E,bL,ch _ _ E];exact n.ic g j t B C i u
   rw[ch _ _ D,ch _ _ D];exact n.ic g j t B C i u
  have R:(Go.Proofs.YtnkpogjiiohapaaGreatDoor.kl e a b v).ms b a=e.ms b a:=by unfold Go.Proofs.YtnkpogjiiohapaaGreatDoor.kl;simp only;rw[ch _ _ (eE q)]
  rw[R,h.sh b a o p (eE q)];exact Q.kl o p (eE q) (RC _ N (h.ms b a o p (eE q)) (h.ao5 ok p o M P t))
 |.inr Y::v,m::L,s=>rw[k]at r x q1;obtain⟨avv,S,rfl⟩:=r;obtain⟨⟨w,y⟩,z⟩:=s;simp only[w,r8,fM];have n:=h.kl p o q z;have U:ed f d (Go.Proofs.YtnkpogjiiohapaaGreatDoor.kl e a b v):=ok.ms (λm F=>x m (jk _ F)) (λm F=>q1 m (jk _ F));exact n.hear U o (x _ kH) ⟨w,y⟩ S
def kS (S:bP) (c:Nat) (a:List bT):bP:={S with P:=upd S.P c (S.P c++a),ai:=λd i=>if d=c/\i=c then(S.P c++a).length else S.ai d i}
theorem ao7(h:c.ai a a=(c.P a).length):kS c a []=c:=by
 unfold kS;have b:upd c.P a (c.P a++[])=c.P:=by
  funext i;by_cases e:i=a
  .subst e;rw[bL,oM]
  rw[ch _ _ e]
 have f:(λd i=>if d=a/\i=a then(c.P a++[]).length else c.ai d i)=c.ai:=by
  funext d i
  simp_all
 rw[b,f]
theorem Rel.ao8(h:Rel b d e c)(q:a<b)(z:e.ai a a=(d a).length)(p:mY)(t:TypeId)(v:Value):Rel b (pj d e a p t v) (gq e a p t v) (kS c a [fZ (lH a (e.gt a) (e.ai a) p t v).op]):=by
 have B:(c.P a).length=(d a).length:=by rw[<-h.bJ a q,c2]
 have C:=h.ai a q a q;have r:∀j i,c.ai j i<=(if j=a/\i=a then(c.P a++[fZ (lH a (e.gt a) (e.ai a) p t v).op]).length else c.ai j i):=λj i=>by
  split
  .rename_i f
   rw[f.1,f.2,dh,wu];omega
  simp
 refine⟨λf m=> ?_,λf m i o=> ?_,λf m=> ?_,λf m i n o x=> ?_,λk g s u y=>eW.imp (λ_ _=>BW.more (r g)) (h.ms k g s u y),h.sh,h.ic,λk g i s u o=>cd (h.uO k g i s u o) (r g i)⟩
 .unfold pj kS;simp only;by_cases l:f=a
  .subst l;rw[pR,bL,ga,h.bJ f m];rfl
  rw[uI _ _ l,ch _ _ l];exact h.bJ f m
 .unfold gq nB kS;simp only;by_cases l:f=a
  .subst l;rw[bL];by_cases w:i=f
   .subst w;rw[bL,bn ⟨rfl,rfl⟩,dh,wu];omega
   rw[ch _ _ w,a7 (λh=>w h.2)];exact h.ai f m i o
  rw[ch _ _ l,a7 (λh=>l h.1)];exact h.ai f m i o
 .by_cases l:f=a
  .subst l;rw[Kc,Kb,ga,h.gt f m];refine(LB _ _ ?_).symm;rw[rf];rfl
  unfold gq nB;simp only;rw[ch _ _ l,ch _ _ l];exact h.gt f m
 have :=h.en f m i n o (Zd (r f i) x);unfold gq nB kS;simp only;by_cases l:f=a
 .subst l;rw[bL];exact this
 rw[ch _ _ l];exact this
theorem Rel.wrote{N c:Nat}(b:c<N):∀(a:List bT) {M d:Nat->List ay} {s f:bx} {S:bP},Rel N M s S->s.ai c c=(M c).length->nD c a M s d f->Rel N d f (kS S c a)
 |[],M,d,s,f,S,h,k,⟨g,j⟩=>by
  subst g j;have n:(S.P c).length=(d c).length:=by rw[<-h.bJ c b,c2]
  rw[ao7 (by have :=h.ai c b c b;omega)];exact h
 |p::a,M,d,s,f,S,h,k,⟨m,t,v,g,j⟩=>by
  have l:=h.ao8 b k m t v;rw[g]at l;have :=Rel.wrote b a l (by rw[anU];unfold pj;rw[pR,dh,wu];omega) j;have e:kS (kS S c [p]) c a=kS S c (p::a):=by
   unfold kS;simp only[bL];have o:upd (upd S.P c (S.P c++[p])) c ((S.P c++[p])++a)=upd S.P c (S.P c++(p::a)):=by
    funext i;by_cases e:i=c
    .subst e;rw[bL,bL,kr];rfl
    rw[ch _ _ e,ch _ _ e,ch _ _ e]
   simp_all
  simp_all
end
section
open Go.RowKit Tryz
attribute [local go_sem ↓] Go.wp_at_zero Go.wp_at_succ
variable {a c d e h i j k l:Nat}{b f:World}{m:Nat->Nat->Prop}{n:Nat->Prop}{q:Value}
theorem ao9(W:World):(Instr.makeChan 151 (A 12)).run prog W=.ok (.chan (some W.heap.size)) (W.alloc (.chan 12 #[] false 0 0 false)):=by
 unfold Instr.makeChan;go_simp
 decide+kernel
theorem apa (w:World):O 127 #[] w λe a=>e=ad (Z (w.heap.size+1))/\iw a (w.heap.size+1) w.heap.size [] false 0 0/\J w a:=by
 have c:=ao9 w;go_enter func127,ntmps127;go_wp2;go_ret
 have b:(w.alloc (.chan 12 #[] false 0 0 false)).heap.size=w.heap.size+1:=by simp
 refine⟨by simp,⟨?_,?_,by simp⟩,(aV w _).alloc (by simp) _⟩
 .rw[<-b];exact bZ _ _
 rw[is _ _ (by simp)];exact D5 w _
structure DG (w wr:World) (b:Nat) (P:Nat->Nat->Prop) (lm:List (PId×Nat)) (gl gc:Nat->Nat->Nat):Prop where
 map:∃es aX,isMap dC Wc wr b lm es aX
 rH:∀c d,P c d->bV ((c:Int),(d:Int)) lm=some (gl c d)
 Do:∀x y:Int,(¬∃c d:Nat,P c d/\x=c/\y=d)->bV (x,y) lm=none
 k5:∀c d,P c d->iw wr (gl c d) (gc c d) [] false 0 0
 inj:∀c d cB cz,P c d->P cB cz->gc c d=gc cB cz->c=cB/\d=cz
 ge:∀c d,P c d->w.heap.size<=gl c d/\w.heap.size<=gc c d
 W2:w.heap.size<=b
 dn:J w wr
def DH (w wr:World) (b:Nat) (P:Nat->Nat->Prop):Prop:=∃a c d,DG w wr b P a c d
theorem DG.congr{wr}{e:Nat->Nat->Prop}(h:DH b wr a m)(f:∀c d,e c d↔m c d):DH b wr a e:=by
 have :e=m:=by funext c d;simp_all
 simp_all
theorem DG.put {w wr l:World} {b:Nat} {P:Nat->Nat->Prop} (h:DH w wr b P) {k j g t:Nat} (hn:¬P k j) (n:J wr l) (m:iw l g t [] false 0 0) (aq:wr.heap.size<=g) (W4:wr.heap.size<=t):
  ∃C,(Instr.mapUpdate 117 (.map (some b)) (.agg #[A (k:Int),A (j:Int)]) (Z g)).run prog l=.ok () C/\DH w C b λc d=>P c d\/(c=k/\d=j):=by
 obtain⟨R,f,i,h⟩:=h;obtain⟨es,aX,u⟩:=h.map;obtain⟨D,E,S,U⟩:=AD Vl (u.ak n) underlying117 ((k:Int),(j:Int)) g;have gC:=u.lt;have r:aR (λk=>k=b) l (putObj l b (.map D E)):=aR.put _ rfl;have W:∀{f i:Nat} {v:World},iw v f i [] false 0 0->v.heap[b]?=l.heap[b]?->f≠b/\i≠b:=λ{f i v} m X=>by
  have Y:=(u.ak n).bb;rw[<-X]at Y;refine⟨λe=> ?_,λe=> ?_⟩
  .have :=m.bb;simp_all
  have :=m.mT;simp_all
 have F:∀{f i:Nat},iw l f i [] false 0 0->iw (putObj l b (.map D E)) f i [] false 0 0:=λ{f i} m=>by obtain⟨I,L⟩:=W m rfl;exact m.jy (wy I) (wy L)
 have s:∀c d,P c d->f c d<wr.heap.size/\i c d<wr.heap.size:=λc d a=>⟨aU (h.k5 c d a).bb,(e8.1 (h.k5 c d a).mT).1⟩
 have ZK:∀c d,P c d->¬(c=k/\d=j):=λc d a e=>by simp_all
 refine⟨_,S,dj ((k:Int),(j:Int)) g R,λc d=>if c=k/\d=j then g else f c d,λc d=>if c=k/\d=j then t else i c d,⟨_,_,U⟩,λc d a=> ?_,λx y M=> ?_,λc d a=> ?_,λc d z B a N e=> ?_,λc d a=> ?_,h.W2,?_⟩
 .rw[je];by_cases e:c=k/\d=j
  .rw[bn (by rw[e.1,e.2]),bn e]
  rw[a7 (λQ=>e (by have I:=kq Prod.fst Q;have L:=kq Prod.snd Q;omega)),a7 e];exact h.rH c d (a.resolve_right e)
 .rw[je,a7 (λe=>M ⟨k,j,.inr ⟨rfl,rfl⟩,kq Prod.fst e,kq Prod.snd e⟩)];exact h.Do x y λ⟨c,d,a,e⟩=>M ⟨c,d,.inl a,e⟩
 .by_cases e:c=k/\d=j
  .simp only[e,SJ,hQ];exact F m
  simp only[e,fM];exact F ((λc d a=>(h.k5 c d a).jy (n.block _ (s c d a).1) (n.block _ (s c d a).2)) c d (a.resolve_right e))
 .by_cases o:c=k/\d=j<;>by_cases p:z=k/\B=j
  .omega
  .simp only[o,SJ,hQ,p,fM]at e;have :=(s z B (N.resolve_right p)).2;omega
  .simp only[o,fM,p,SJ,hQ]at e;have :=(s c d (a.resolve_right o)).2;omega
  simp only[o,fM,p]at e;exact h.inj c d z B (a.resolve_right o) (N.resolve_right p) e
 .have I7:=h.dn.size;by_cases e:c=k/\d=j
  .simp only[e,SJ,hQ];omega
  simp only[e,fM];exact h.ge c d (a.resolve_right e)
 have q:=bp h.dn n;have O4:=h.W2;exact⟨r.os.trans q.os,r.tape.trans q.tape,r.output.trans q.output,cd q.size r.size,λk hk=>(wy (by omega)).trans (q.block k hk)⟩
theorem apb (N:Nat) (p:N<=4) (w:World):O 71 #[A N] w λe h=>e=ad (.map (some w.heap.size))/\DH w h w.heap.size λc d=>c<N/\d<N/\c≠d:=by
 have q:=Jo 117 w;go_enter func71,ntmps71;go_wp2_with fail
 go_loopw [8] (λi wr=>∃k:Nat,k<=N/\i=A k/\DH w wr w.heap.size λc d=>c<k/\d<N/\c≠d) (λi _=>N-(intOf i).toNat)
 case atStart=>exact⟨0,b6 _,rfl,show DH w (w.alloc (.map #[] 0)) w.heap.size λc d=>c<0/\d<N/\c≠d from⟨[],λ_ _=>0,λ_ _=>0,⟨_,_,isMap.fresh dC Wc w⟩,λc d a=>by omega,λ_ _ _=>rfl,λc d a=>by omega,λc d _ _ a=>by omega,λc d a=>by omega,bW _,aV w (.map #[] 0)⟩⟩
 case round=>
  obtain⟨k,r,rfl,f⟩:=hrel;by_cases s:k<N
  .obtain⟨g,rfl⟩:∃g,g=wr:=⟨_,rfl⟩;go_wp2_with fail
   go_loopw [12] (λi wr=>∃j:Nat,j<=N/\i=A j/\DH w wr w.heap.size λc d=>(c<k/\d<N/\c≠d)\/(c=k/\d<j/\c≠d)) (λi _=>N-(intOf i).toNat)
   case atStart=>exact⟨0,b6 _,rfl,DG.congr f (λc d=>by omega)⟩
   case round=>
    obtain⟨j,t,rfl,b⟩:=hrel;by_cases u:j<N
    .by_cases l:k=j
     .subst l;go_wp2;go_roundw
      case rel=>exact⟨k+1,by omega,by go_num,DG.congr b (λc d=>by omega)⟩
      case measure=>simp[intOf];omega
     have v:¬((k:Int)=(j:Int)):=by omega
     go_wp2_with fail
     refine(apa _).mono ?_;rintro e x ⟨rfl,m,n⟩;obtain⟨y,z,o⟩:=DG.put b (k:=k) (j:=j) (by omega) n m (by omega) (by omega);go_wp2;go_roundw
     case rel=>exact⟨j+1,by omega,by go_num,DG.congr o (λc d=>by omega)⟩
     case measure=>simp[intOf];omega
    go_wp2;go_roundw
    case rel=>exact⟨k+1,by omega,by go_num,DG.congr b (λc d=>by omega)⟩
    case measure=>simp[intOf];omega
  go_wp2;go_ret
  exact⟨rfl,DG.congr f (λc d=>by omega)⟩
structure vY (B:Nat) (w':World) (sp:Int) (ah jH d0 c4 cR d aF be:Nat):Prop where
 kB:w'.heap[ah]?=some (.cells #[A sp,A 0,.slice none 0 0,aa jH 1 1,Z d] 204)
 rem:w'.heap[jH]?=some (.cells #[Z d0] 101)
 gX:cW w' d0 c4 cR jK.1 jK.2
 q:cW w' d aF be jK.1 jK.2
 ge:B<=ah/\B<=jH/\B<=d0/\B<=c4/\B<=cR/\B<=d/\B<=aF/\B<=be
 ne:c4≠cR/\c4≠aF/\c4≠be/\cR≠aF/\cR≠be/\aF≠be
theorem cW.aea(h:cW b a c d jK.1 jK.2)(g:∀k,(k=a\/k=c\/k=d)->f.heap[k]?=b.heap[k]?):cW f a c d jK.1 jK.2:=by obtain⟨i,j,l⟩:=h.al;obtain⟨m,n,o⟩:=h.he;refine⟨by rw[g a (.inl rfl)];exact h.ao,⟨i,j,l.hU (g c (.inr (.inl rfl)))⟩,⟨m,n,o.hU (g d (.inr (.inr rfl)))⟩,λp e=> ?_,λp e=>by cases e⟩;simp[jK]at e;subst e;exact⟨.inl ⟨rfl,rfl⟩,λq r=>by cases r⟩
theorem cW.Ad{e f}(h:cW b a c d e f):a<b.heap.size/\c<b.heap.size/\d<b.heap.size:=by obtain⟨_,_,g⟩:=h.al;obtain⟨_,_,i⟩:=h.he;exact⟨aU h.ao,g.lt,i.lt⟩
theorem vY.Ad{B w j a b c e f d g i}(h:vY B w j a b c e f d g i):a<w.heap.size/\b<w.heap.size/\c<w.heap.size/\e<w.heap.size/\f<w.heap.size/\d<w.heap.size/\g<w.heap.size/\i<w.heap.size:=
 ⟨aU h.kB,aU h.rem,h.gX.Ad.1,h.gX.Ad.2.1,h.gX.Ad.2.2,h.q.Ad.1,h.q.Ad.2.1,h.q.Ad.2.2⟩
theorem vY.aeb{p}(m:vY l b p a c d e h i j k)(o:∀g,g=a\/g=c\/g=d\/g=e\/g=h\/g=i\/g=j\/g=k->f.heap[g]?=b.heap[g]?):vY l f p a c d e h i j k:=
 ⟨(o _ (.inl rfl)).trans m.kB,(o _ (.inr (.inl rfl))).trans m.rem,m.gX.aea λg n=>o g (by rcases n with n|n|n<;>simp[n]),m.q.aea λg n=>o g (by simp_all),m.ge,m.ne⟩
theorem vY.ak{w f g m}{w':World}(b:vY a w f c d h i j l g m)(n:J w w'):vY a w' f c d h i j l g m:=by
 obtain⟨o,p,q,r,s,t,u,v⟩:=b.Ad;refine b.aeb λk e=>n.block k ?_
 omega
theorem vY.mono{w sp}{B':Nat}(b:vY a w sp c d e h i j k l)(f:B'<=a):vY B' w sp c d e h i j k l:=by obtain⟨g,m,n,o,p,r,s,t⟩:=b.ge;exact⟨b.kB,b.rem,b.gX,b.q,⟨by omega,by omega,by omega,by omega,by omega,by omega,by omega,by omega⟩,b.ne⟩
theorem apc (g:Int) (w:World):
  O 128 #[A g] w λe k=>(∃l p b q r d h i,e=ad (Z l)/\vY w.heap.size k g l p b q r d h i)/\J w k:=by
 go_enter func128,ntmps128;go_wp2_with fail
 refine(abb w).mono ?_;rintro e a ⟨⟨b,s,t,rfl,m,D,E,F,u⟩,v⟩;go_wp2_with fail
 refine(abb (a.alloc (.cells #[Z b] 101))).mono ?_;rintro e c ⟨⟨d,h,i,rfl,x,y,z,B,C⟩,j⟩;simp at y z B j;have n:=show c.heap[a.heap.size]?=some (.cells #[Z b] 101) from(j.block a.heap.size (by omega)).trans (bZ a _)
 have o:=(aV a (.cells #[Z b] 101)).trans (j.mono (by omega));have I:=aU n;go_wp2;go_ret
 have f:=aV c (.cells #[A g,A 0,.slice none 0 0,aa a.heap.size 1 1,Z d] 204);obtain⟨L,M,N⟩:=m.Ad;exact⟨⟨c.heap.size,a.heap.size,b,s,t,d,h,i,rfl,bZ c _,bB n f,(m.ak o).ak f,x.ak f,⟨by omega,by omega,by omega,by omega,by omega,by omega,by omega,by omega⟩,u,by omega,by omega,by omega,by omega,C⟩,(bp v o).trans (f.mono (by omega))⟩
theorem W9 (N:Nat):ot N=nA N λ_=>0:=by
 have a:(ot N).toList=List.replicate N (A 0):=by unfold ot;have :=SH (A 0) (N*1);rw[xO]at this⊢;exact this
 apply Array.ext';rw[a];unfold nA;apply Ea
 .simp
 simp
theorem apd{o:Obj}(h:a=b.heap.size):(b.alloc o).heap[a]?=some o:=by rw[h];exact bZ b o
theorem ape{o:Obj}(h:a≠b.heap.size):(b.alloc o).heap[a]?=b.heap[a]?:=by
 by_cases c:a<b.heap.size
 .exact is _ _ c
 have d:b.heap[a]?=none:=by simp;omega
 have e:(b.alloc o).heap[a]?=none:=by simp;omega
 rw[d,e]
theorem apf{w:World}(a:J b f)(h:J w b):J w f:=bp h a
structure Xa (w wc:World) (N sp c:Nat) (p:Value) (bd fP ah jH d0 c4 cR d aF be j0 hX:Nat):Prop where
 p:p=Z bd
 bb:wc.heap[bd]?=some (.cells #[A c,A 0,aa fP N N,Z ah,.map (some j0),.map (some hX)] 109)
 cF:wc.heap[fP]?=some (.cells (ot N) 3)
 bt:wc.heap[j0]?=some (.map #[] 0)
 new:wc.heap[hX]?=some (.map #[] 0)
 tN:vY w.heap.size wc sp ah jH d0 c4 cR d aF be
 ge:w.heap.size<=bd/\w.heap.size<=fP/\w.heap.size<=j0/\w.heap.size<=hX
 hC:j0≠hX/\(∀k,k=c4\/k=cR\/k=aF\/k=be->j0≠k/\hX≠k)
 dn:J w wc
def Kf (m:List (Int×Nat)):Prop:=∀d a g,bV d m=some g->bV a m=some g->d=a
theorem Kf.put{m}(h:Kf m){k:Int}(i:∀p∈m,p.2≠a):Kf (dj k a m):=λd f g c b=>by
 rw[je]at c b;by_cases j:d=k
 .by_cases e:f=k
  .omega
  rw[a7 e]at b;rw[bn j]at c;cases c;exact absurd rfl (i _ (gZ b))
 rw[a7 j]at c;by_cases e:f=k
 .rw[bn e]at b;cases b;exact absurd rfl (i _ (gZ c))
 rw[a7 e]at b;exact h d f g c b
def RD (wc wr:World) (N c k a:Nat) (m:List (Int×Nat)):Prop:=(∃b e,isMap Bv (Qy N) wr a m b e)/\(∀p∈m,wr.heap[p.2]?=some (.cells (ot N) 3)/\wc.heap.size<=p.2)/\((∀d:Nat,d<k->d≠c->∃g,bV (d:Int) m=some g)/\Kf m/\(∀p∈m,∃d:Nat,d<N/\d≠c/\p.1=(d:Int))/\(m.map (·.1)).Nodup)/\aR (λk=>k=a) wc wr
def aec (w a:World) (N b c e:Nat) (q:gm):Prop:=dU a e (λk=>w.heap.size<=k/\k<a.heap.size) (λ_=>False) N b c 0 (λ_=>0) [] [] q/\q.D0=(jK,[])/\(∀d:Nat,d<N->d≠c->∃g,bV (d:Int) q.fX=some g)/\(Kf q.fX/\(∀p∈q.fX,∃d:Nat,d<N/\d≠c/\p.1=(d:Int))/\(q.fX.map (·.1)).Nodup)/\∀g,q.dq g=List.replicate N 0
theorem aed(e:a≠c)(f:¬n a)(g:¬n c):fJ a c n jK.1 jK.2:=by
 refine⟨e,f,g,λp d b h=> ?_,λp d k i b h=> ?_,λp d=>by cases d⟩
 .simp[jK]at d
  simp_all
 simp[jK]at d
 simp_all
theorem Xa.rep{wc wr D bd X s Y N m}(p:Xa b wc k D a q bd X c l j d e s h i Y N)(hm:RD wc wr k a k N m)(hc:a<k)(hN:k<=4)(h1:1<=D)(h2:D<=50):(∃v,aec b wr k D a bd v)/\J b wr:=by
 obtain⟨⟨E,F,il⟩,fl,yw,C⟩:=hm;have z:=λn y I=>C.other n y I
 have B:∀n a t f,wc.heap[n]?=some (.cells a t f)->n≠N:=λn a t f y g=>by rw[g,p.new]at y;cases y
 obtain⟨g1,g2,g3,g4⟩:=p.ge;obtain⟨u1,u2,u3,u4,u5,u6,u7,u8⟩:=p.tN.ge;obtain⟨eA,db,Ey,JK,W5,W6,W7,W8⟩:=p.tN.Ad;obtain⟨dc,cx,pr,U3,n5,n6⟩:=p.tN.ne;have qm:=(z _ (aU p.bb) (B _ _ _ _ p.bb)).trans p.bb;have dH:=(z _ (aU p.cF) (B _ _ _ _ p.cF)).trans p.cF;have avw:=(e8.1 p.bt).1;have gg:=(z _ avw p.hC.1).trans p.bt;have P:vY b.heap.size wr D c l j d e s h i:=p.tN.aeb λn g=>by
  rcases g with rfl|rfl|rfl|rfl|rfl|rfl|rfl|rfl
  .exact z _ eA (B _ _ _ _ p.tN.kB)
  .exact z _ db (B _ _ _ _ p.tN.rem)
  .exact z _ Ey (B _ _ _ _ p.tN.gX.ao)
  .exact z _ JK (eE (p.hC.2 _ (.inl rfl)).2)
  .exact z _ W5 (eE (p.hC.2 _ (.inr (.inl rfl))).2)
  .exact z _ W6 (B _ _ _ _ p.tN.q.ao)
  .exact z _ W7 (eE (p.hC.2 _ (.inr (.inr (.inl rfl)))).2)
  exact z _ W8 (eE (p.hC.2 _ (.inr (.inr (.inr rfl)))).2)
 have gC:J b wr:=⟨C.os.trans p.dn.os,C.tape.trans p.dn.tape,C.output.trans p.dn.output,cd p.dn.size C.size,λn y=>(C.other n (c0 y p.dn.size) (by omega)).trans (p.dn.block n y)⟩;have IZ:=C.size;have lb:=aU p.bb;have avV:=aU p.cF;have avW:=il.lt;have Q:∀{n:Nat} {a:Array Value} {t:TypeId} {f:Nat×Nat},wc.heap[n]?=some (.cells a t f)->n≠Y:=λ{n a t f} y g=>by rw[g,p.bt]at y;cases y
 have R:∀{n u:Nat} {a:Array Value} {t:TypeId} {f:Nat×Nat},wc.heap[n]?=some (.cells a t f)->(∃E F,isMap dC rF wc u jK.1 E F)\/(∃E F,isMap dC qZ wc u jK.2 E F)->n≠u:=λ{n u a t f} y c g=>by rcases c with⟨_,_,c⟩|⟨_,_,c⟩<;>(have :=c.bb;rw[<-g,y]at this;cases this)
 have S:∀{n Kg:Nat} {a cB:Array Value} {t nM:TypeId} {f:Nat×Nat},wc.heap[n]?=some (.cells a t f)->wc.heap[Kg]?=some (.cells cB nM f)->t≠nM->n≠Kg:=λ{n Kg a cB t nM f} y c9 I g=>by rw[g,c9]at y;injection y with y;injection y with _ y;exact I y.symm
 have L:=p.tN.gX;have M:=p.tN.q;have aee:∀{n:Nat} {a:Array Value} {t:TypeId},wc.heap[n]?=some (.cells a t)->t≠204->t≠101->t≠174->¬(n=c\/n=l\/n=j\/n=d\/n=e\/n=s\/n=h\/n=i):=λ{n a t} y U a2 a3 g=>by
  rcases g with g|g|g|g|g|g|g|g
  .exact S y p.tN.kB U g
  .exact S y p.tN.rem a2 g
  .exact S y L.ao a3 g
  .exact R y (.inl L.al) g
  .exact R y (.inr L.he) g
  .exact S y M.ao a3 g
  .exact R y (.inl M.al) g
  exact R y (.inr M.he) g
 have aef:lE [(⟨j,d,e,jK⟩:hV)] h i=[d,e,h,i]:=rfl;have W:∀n,(n=d\/n=e\/n=h\/n=i)->¬lF (λn=>n=c\/n=l\/n=j\/n=d\/n=e\/n=s\/n=h\/n=i) [(⟨j,d,e,jK⟩:hV)] h i n:=λn y aC=>aC.2 (by rw[aef];simpa using y)
 refine⟨⟨⟨X,c,Y,N,0,s,h,i,.slice none 0 0,aa l 1 1,[⟨j,d,e,jK⟩],(jK,[]),jK,m,λ_=>List.replicate k 0,λn=>n=c\/n=l\/n=j\/n=d\/n=e\/n=s\/n=h\/n=i⟩,⟨qm,by rw[<-W9];exact dH,?_,by simp,List.Pairwise.nil,⟨#[],0,⟨gg,rfl,by simp,by simp⟩⟩,λq au=>(by cases au),⟨E,F,il⟩,?_,hc,hN,⟨g1,c0 lb IZ⟩,⟨g2,c0 avV IZ⟩,⟨g3,c0 avw IZ⟩,⟨g4,avW⟩,?_,?_,?_,?_,?_,p.hC.1,λn y=>y.2,λn y=>y.elim⟩,rfl,λcz de I=>yw.1 cz de I,yw.2,λ_=>rfl⟩,gC⟩
 .refine⟨P.kB,hg _ _ _ _,λo al=>(by cases al),?_,h1,h2,h1,bW _,by simp,?_,?_,P.q,aed n6 (W _ (by simp)) (W _ (by simp)),ha.root,rfl,?_,.inl rfl,λn y=>(by cases y),λn y=>(by cases y;exact .inr (.inl rfl)),?_,by simp,by simp,by simp,?_,λn y=>y.elim,λn y=>y.elim⟩
  .exact⟨by simp[iM],.inr ⟨l,1,_,rfl,b6 _,P.rem,by simp,by unfold maxLen;simp,by simp,by simp[iM]⟩⟩
  .intro r aP;obtain rfl:=fR.1 aP;exact⟨P.gX,aed dc (W _ (by simp)) (W _ (by simp)),ha.root⟩
  .intro w aB;have :w=0:=by simpa using aB
   subst this;show l1 jK (List.take (0*D-0) []) jK;rw[List.take_nil];rfl
  .rw[aef];simp;omega
  .intro r aP;obtain rfl:=fR.1 aP;simp
  intro n y;rcases y with g|g|g|g|g|g|g|g<;>omega
 .intro q au;obtain⟨U,a2⟩:=fl q au;refine⟨⟨by simp,?_⟩,by show q.2≠X;omega,⟨by omega,aU U⟩,?_⟩
  .rw[U,W9];unfold nA;congr 3;rw[List.map_replicate];exact Ea (by simp) λx _ _=>by simp
  intro g;rcases g with g|g|g|g|g|g|g|g<;>omega
 .intro n y;show b.heap.size<=n/\n<wr.heap.size;rcases y with g|g|g|g|g|g|g|g<;>omega
 .exact aee p.bb (by decide) (by decide) (by decide)
 .exact aee p.cF (by decide) (by decide) (by decide)
 .intro g;rcases g with g|g|g|g|g|g|g|g
  .exact Q p.tN.kB g.symm
  .exact Q p.tN.rem g.symm
  .exact Q L.ao g.symm
  .exact(p.hC.2 _ (.inl rfl)).1 g
  .exact(p.hC.2 _ (.inr (.inl rfl))).1 g
  .exact Q M.ao g.symm
  .exact(p.hC.2 _ (.inr (.inr (.inl rfl)))).1 g
  exact(p.hC.2 _ (.inr (.inr (.inr rfl)))).1 g
 intro g;rcases g with g|g|g|g|g|g|g|g
 .exact B _ _ _ _ p.tN.kB g.symm
 .exact B _ _ _ _ p.tN.rem g.symm
 .exact B _ _ _ _ L.ao g.symm
 .exact(p.hC.2 _ (.inl rfl)).2 g
 .exact(p.hC.2 _ (.inr (.inl rfl))).2 g
 .exact B _ _ _ _ M.ao g.symm
 .exact(p.hC.2 _ (.inr (.inr (.inl rfl)))).2 g
 exact(p.hC.2 _ (.inr (.inr (.inr rfl)))).2 g
theorem apg (c N l:Nat) (hc:c<N) (R:N<=4) (n:1<=l) (h2:l<=50) (w:World):
  O 72 #[A c,A N,A l] w λe S=>(∃j,e=ad (Z j)/\∃q,aec w S N l c j q)/\J w S:=by
 have Lf:=LC N R;have nu:=Jo 106;have pf:=Jo 107;have zB:=ag (apc (l:Int));go_enter func72,ntmps72;go_wp2_with fail
 go_cut [7,11,13,14,15] (λp s h m1 m2 wc=>∃j I t u v x y d z B L f,s=aa I N N/\h=Z t/\m1=.map (some L)/\m2=.map (some f)/\Xa w wc N l c p j I t u v x y d z B L f)
 case first =>
  go_region_with (first |(go_at_call 128;refine(zB.o _).mono ?_;rintro e w1 ⟨⟨t,u,v,x,y,d,z,B,rfl,C⟩,D⟩;have eO:=ag (apf (w:=w) D (by go_grown));obtain⟨eA,db,Ey,JK,W5,W6,W7,W8⟩:=C.Ad;obtain⟨g1,g2,g3,g4,g5,g6,g7,g8⟩:=C.ge;(try simp at g1 g2 g3 g4 g5 g6 g7 g8);have b1:=D.size;(try simp at b1);have PG:=ag (C.mono (B':=w.heap.size) (by simp <;>omega));have aJ:=ag D;clear C D))
  all_goals(go_wp2_with fail;go_meet)
  all_goals refine⟨_,_,t,u,v,x,y,d,z,B,_,_,rfl,rfl,rfl,rfl,rfl,?_,?_,?_,?_,PG.o.ak (by go_grown),⟨by omega,by omega,by omega,by omega⟩,⟨by omega,λk hk=>by omega⟩,eO.o.trans (Below.mono (by go_grown:J w1 _) (by omega))⟩
  all_goals repeat' (first
   |exact apd (by first |rfl|omega|(simp;done)|(simp;omega))
   |(refine(ape (by first |omega|(simp;done)|(simp;omega))).trans ?_)
   |(refine(aJ.o.block _ (by first |omega|(simp;done)|(simp;omega))).trans ?_))
 case rest=>
  obtain⟨j,I,t,u,v,x,y,d,z,B,L,f,rfl,rfl,rfl,rfl,E⟩:=hcut;have b:=E.p;subst b;have r:=ag E;have j2:wc.cell? (K j 5)=some (.map (some f)):=by simp[World.cell?,E.bb]
  clear E nu pf;have H6:=ag (show RD wc wc N c 0 f [] from⟨⟨#[],0,⟨r.o.new,rfl,by simp,by simp⟩⟩,λp b=>(by cases b),⟨λd ao=>absurd ao (xK _),λd F g n=>(by cases n),λp b=>(by cases b),IB⟩,aR.cL (ca _ _)⟩);have qR:=aU r.o.bb;go_wp2_with fail
  go_loopw [19] (λi wr=>∃k:Nat,k<=N/\i=A k/\∃m,RD wc wr N c k f m) (λi _=>N-(intOf i).toNat)
  case atStart=>exact⟨0,b6 _,rfl,_,H6.o⟩
  case round=>
   obtain⟨k,hk,rfl,m,U⟩:=hrel;have a:=ag U;clear U;have d5:wr.cell? (K j 5)=some (.map (some f)):=a.o.2.2.2.cell (λe=>by have n:=r.o.bb;rw[e,r.o.new]at n;cases n) j2;have TY:j<wr.heap.size:=c0 qR a.o.2.2.2.size;by_cases aL:k<N
   .by_cases W:k=c
    .subst W;go_wp2;go_roundw
     case rel=>exact⟨k+1,by omega,by go_num,m,a.o.1,a.o.2.1,⟨λF de X=>a.o.2.2.1.1 F (by omega) X,a.o.2.2.1.2⟩,a.o.2.2.2⟩
     case measure=>simp[intOf];omega
    have X:¬((k:Int)=(c:Int)):=by omega
    have M:=ag (show J wr ((wr.alloc (.cells (ot N) 3)).drew) from(aV wr (.cells (ot N) 3)).drew);obtain⟨es,aX,P⟩:=a.o.1;have auN:=P.lt;have HMA:=ag (P.ak M.o);clear P;obtain⟨gd,gV,fz,Y⟩:=AD abU HMA.o underlying107 (k:Int) wr.heap.size;simp only[Bv,Qy]at fz;have VF:=ag Y;clear Y;have wK:=ag (show RD wc (putObj ((wr.alloc (.cells (ot N) 3)).drew) f (.map gd gV)) N c (k+1) f (dj (k:Int) wr.heap.size m) from by
     refine⟨⟨_,_,VF.o⟩,λp b=> ?_,⟨λF de aph=> ?_,a.o.2.2.1.2.1.put λp b e=> ?_,λp b=> ?_,G4 a.o.2.2.1.2.2.2⟩,(a.o.2.2.2.trans (aR.cL M.o)).trans (aR.put _ rfl)⟩
     .have Q:p.2≠f/\((wr.alloc (.cells (ot N) 3)).drew).heap[p.2]?=some (.cells (ot N) 3)/\wc.heap.size<=p.2:=by
       rcases qk b with b|rfl
       .obtain⟨ck,a2⟩:=a.o.2.1 p b;refine⟨λe=> ?_,(M.o.block _ (aU ck)).trans ck,a2⟩;have :=(e8.1 r.o.new).1;omega
       have IZ:=a.o.2.2.2.size;exact⟨by show wr.heap.size≠f;omega,bZ wr _,IZ⟩
      exact⟨(wy Q.1).trans Q.2.1,Q.2.2⟩
     .rw[je];split
      .exact⟨_,rfl⟩
      exact a.o.2.2.1.1 F (by omega) aph
     .have :=aU (a.o.2.1 p b).1;omega
     rcases qk b with b|rfl
     .exact a.o.2.2.1.2.2.1 p b
     exact⟨k,aL,W,rfl⟩)
    have auO:=Lf;go_wp2_with fail
    go_region
    all_goals go_wp2
    all_goals go_roundw
    all_goals first
     |exact⟨k+1,by omega,by go_num,_,wK.o⟩
     |(simp[intOf];omega)
   have iC:k=N:=by omega
   subst iC;go_wp2;go_ret
   obtain⟨aw,gC⟩:=r.o.rep a.o hc R n h2;exact⟨⟨j,rfl,aw⟩,gC⟩
def FK (a:World) (b:Nat) (F:Nat->Prop) (N e c:Nat) (q:gm):Prop:=dU a b F (λ_=>False) N e c 0 (λ_=>0) [] [] q/\q.D0=(jK,[])/\(∀d:Nat,d<N->d≠c->∃g,bV (d:Int) q.fX=some g)/\(Kf q.fX/\(∀p∈q.fX,∃d:Nat,d<N/\d≠c/\p.1=(d:Int))/\(q.fX.map (·.1)).Nodup)/\∀g,q.dq g=List.replicate N 0
theorem FK.hA{w d F N sp c q}{a:World}(h:FK w d F N sp c q)(e:w.heap.size<=a.heap.size)(b:∀k,F k->a.heap[k]?=w.heap[k]?):FK a d F N sp c q:=⟨h.1.hA e b (λ_ b=>b.elim),h.2⟩
theorem FK.ak{w c q}{w':World}(h:FK w a n d e c q)(b:J w w'):FK w' a n d e c q:=h.hA b.size λk f=>b.block k (h.1.lt k f)
structure Kh (w wr:World) (N sp r kY:Nat) (aW:Value) (l:List Nat) (jh:Nat->Nat->Prop) (q:Nat->gm):Prop where
 bb:wr.heap[r]?=some (.cells #[aW,.map (some kY)] 119)
 row:wr.ownsRow 0 92 1 aW l.length (l.flatMap iM)
 fi:∀c (hc:c<l.length),FK wr l[c] (jh c) N sp c (q c)
 new:∀c,c<l.length->∀j,jh c j->w.heap.size<=j
 kD:∀c cB,c<l.length->cB<l.length->c≠cB->∀k,jh c k->¬jh cB k
 qt:∀c,c<l.length->¬jh c r
 BK:∀c,c<l.length->∀g,aW.ownBlock=some g->¬jh c g
 Xb:w.heap.size<=r
 Xc:∀g,aW.ownBlock=some g->w.heap.size<=g
 dn:J w wr
theorem Kh.step {w wr:World} {r:Nat} {B:Value} {l:List Nat} {s:Nat->gm} (n:Kh w wr d e r h B l m s) {qn:gm} (y:J wr b) (Y:FK b a (λk=>wr.heap.size<=k/\k<b.heap.size) d e l.length qn) (o:Obj)
  (S:f.ownsRow 0 92 1 q (l.length+1) ((l++[a]).flatMap iM)) (C:(b.alloc o).grownBy f B.ownBlock) (qS:lB (b.alloc o) B q):
  Kh w (f.setCell (H r) q) d e r h q (l++[a]) (λc=>if c=l.length then λk=>wr.heap.size<=k/\k<b.heap.size else m c) (λc=>if c=l.length then qn else s c):=by
 have qR:=aU n.bb;have U:=y.size;have hrC:B.ownBlock≠some r:=λp=>by exact iX n.row p n.bb (by decide)
 have F:=λk t I=>(C.block k (by simp;omega) I).trans (is _ _ t)
 have P:∀g,q.ownBlock=some g->g<b.heap.size->B.ownBlock=some g:=λg x Q=>by
  rcases qS with W|W
  .simp_all
  have :=W g x;simp at this;omega
 have h6:=(F r (by omega) (eE hrC)).trans ((y.block r qR).trans n.bb);have api:q.ownBlock≠some r:=λp=>by
  obtain⟨cur,v⟩:=b0 S p
  simp_all
 have z:(l++[a]).length=l.length+1:=by simp
 have R:b.heap.size<=(f.setCell (H r) q).heap.size:=by have :=C.size;simp[World.setCell]at this⊢;omega
 have X:=λg x=>(cX n.row g x).2
 refine⟨?_,?_,?_,?_,?_,?_,?_,n.Xb,?_,?_⟩
 .have :=setRow (i:=0) (u:=q) h6
  simp_all
 .rw[z];exact kd S api _
 .intro c v;rw[z]at v;by_cases p:c=l.length
  .subst p;simp only[hQ,af5];refine Y.hA R λk t=>(dE (by omega)).trans (F k t.2 (λp=> ?_))
   have :=X k p.symm;omega
  have D:c<l.length:=by omega
  simp only[p,fM];rw[Cf D];refine((n.fi c D).ak y).hA R λk t=>(dE (show k≠r from λp=>n.qt c D (p▸t))).trans (F k (c0 ((n.fi c D).1.lt k t) U) (λp=>n.BK c D k p.symm t))
 .intro c v j L;by_cases p:c=l.length
  .subst p;simp only[hQ]at L;exact cd n.dn.size L.1
  simp only[p,fM]at L;exact n.new c (by rw[z]at v;omega) j L
 .intro c M v cD I k t E;rw[z]at v cD;by_cases p:c=l.length
  .subst p;have N:¬M=l.length:=λp=>I p.symm
   simp only[hQ]at t;simp only[N,fM]at E;have :=(n.fi M (by omega)).1.lt k E;omega
  simp only[p,fM]at t;by_cases N:M=l.length
  .subst N;simp only[hQ]at E;have :=(n.fi c (by omega)).1.lt k t;omega
  simp only[N,fM]at E;exact n.kD c M (by omega) (by omega) I k t E
 .intro c v hF;rw[z]at v;by_cases p:c=l.length
  .subst p;simp only[hQ]at hF;omega
  simp only[p,fM]at hF;exact n.qt c (by omega) hF
 .intro c v g x hF;rw[z]at v;by_cases p:c=l.length
  .subst p;simp only[hQ]at hF;have :=X g (P g x hF.2);omega
  simp only[p,fM]at hF;have Q:=(n.fi c (by omega)).1.lt g hF;exact n.BK c (by omega) g (P g x (by omega)) hF
 .intro g x;by_cases Q:g<b.heap.size
  .exact n.Xc g (P g x Q)
  have :=n.dn.size;omega
 refine⟨C.os.trans (y.os.trans n.dn.os),C.tape.trans (y.tape.trans n.dn.tape),C.output.trans (y.output.trans n.dn.output),cd (cd n.dn.size U) R,λk t=> ?_⟩;have I7:=n.dn.size;have rG:=n.Xb;rw[dE (by omega),F k (by omega) (λp=>by have :=n.Xc k p.symm;omega),y.block k (by omega),n.dn.block k t]
theorem apj (l:List Nat):l.flatMap iM=(List.range l.length).flatMap λc=>iM (l.getD c 0):=by
 have :l=(List.range l.length).map λc=>l.getD c 0:=by
  apply Ea
  .simp
  simp_all
 conv=>lhs;rw[this]
 rw[agf]
def s0:bx:=⟨λ_=>0,λ_ _=>0,λ_=>[],λ_=>[],λ_=>[],λ_=>[],λ_ _ _=>0,λ_ _=>[],λ_ _=>false⟩
theorem ok0:ed a (λ_=>[]) s0:=by
 refine⟨⟨λc _ i l=>(by cases l),λc _=>(by simp),λc _=>List.Pairwise.nil⟩,λc b=>⟨λe n=>⟨D8 _,by simp[s0]⟩,?_,λo q=>(by cases q),λp r=>(by cases r),IB⟩,λc b=>rfl,λc b=>List.Pairwise.nil,λc b=>⟨D8 _,λg _ h=>h⟩,λe n y j=>(by cases j),λc d _ _ _ m f=>(by cases f),λc b=>rfl,λc d _ _ _ m f=>(by cases f),λc d _ _ _=>⟨λi _=>⟨D8 _,D8 _⟩,λy j=>(by simp)⟩,λc b g k=>(by cases k),λc b g k=>(by simp)⟩;have :qx (λ_=>[]) (s0.ai c) a=[]:=by unfold qx;simp
 rw[this];rfl
theorem md0:Fr a (λ_=>[]):=λc _ i b=>by cases b
theorem Kh.bN {wr:World} {l:List Nat} {s:Nat->gm} (o:Kh b wr c e h d q l m s) (Q:DH f b d λj n=>j<c/\n<c/\j≠n) (R:l.length=c) (h1:1<=c) (S:c<=4):∃x,ei wr h (λk=>f.heap.size<=k/\k<wr.heap.size) (λ_=>False) c e (λ_=>[]) s0 x:=by
 obtain⟨a,U,r,jT,gP,W⟩:=bz o.row;obtain⟨C,E⟩:=W 0 (by omega);subst E;subst r;subst R;obtain⟨X,F,I,w⟩:=Q;obtain⟨Y,aX,M⟩:=w.map;have L:=o.dn.size;have rG:=o.Xb;have B:∀j n,j<l.length/\n<l.length/\j≠n->F j n<b.heap.size/\I j n<b.heap.size:=λj n D=>⟨aU (w.k5 j n D).bb,(e8.1 (w.k5 j n D).mT).1⟩
 have N:=M.lt;have O4:=w.W2;refine⟨⟨C,U,d,X,λj=>l.getD j 0,m,s,F,I,λ_ _=>[],λ_ _=>0,λ_ _=>0⟩,⟨o.bb,by rw[<-apj];exact o.row,S,λj t=> ?_,λj t=> ?_,λj t=>rfl,λj n t u v=>(by obtain⟨g,aq⟩:=(o.fi j t).2.2.1 n u (eE v);refine⟨g,aq,λi hi=> ?_⟩;rw[(o.fi j t).2.2.2.2 g];simp[rowOf,s0,hi]),λj t=>(o.fi j t).2.2.2.1,⟨Y,aX,M.hU (o.dn.block _ N)⟩,λj n t u v=>w.rH j n ⟨t,u,v⟩,λx y fo=>w.Do x y λ⟨j,n,⟨gv,mR,pw⟩,av,E⟩=>fo ⟨j,n,gv,mR,pw,av,E⟩,λj n t u v=>(w.k5 j n ⟨t,u,v⟩).jy (o.dn.block _ (B j n ⟨t,u,v⟩).1) (o.dn.block _ (B j n ⟨t,u,v⟩).2),λ_ _ _ _ _=>trivial,λj n cB cz t u v cD de apk r=>w.inj j n cB cz ⟨t,u,v⟩ ⟨cD,de,apk⟩ r,λj t k z=>⟨cd w.dn.size (o.new j t k z),(o.fi j t).1.lt k z⟩,o.kD,o.qt,λj t=>o.BK j t C rfl,λj t hF=> ?_,λr P j n t u v=>⟨λhF=> ?_,λhF=> ?_⟩,⟨by omega,aU o.bb⟩,⟨cd w.dn.size (o.Xc C rfl),(cX o.row C rfl).2⟩,⟨O4,c0 N L⟩,λj n t u v=> ?_,λk z=>z.2,λk z=>z.elim,λk z=>z.elim⟩,ok0,md0⟩
 .have :=(o.fi j t).1;show dU wr (l.getD j 0) _ _ _ _ _ _ _ _ _ _;rw[OK,uX t];exact this
 .rw[(o.fi j t).2.1];exact⟨fO.root,ha.root,λp D=>(by simp[jK]at D;simp_all),rfl⟩
 .have :b.heap.size<=d:=o.new j t _ hF;omega
 .have h2:b.heap.size<=F j n:=o.new r P _ hF;have ax:=(B j n ⟨t,u,v⟩).1;omega
 .have h2:b.heap.size<=I j n:=o.new r P _ hF;have ax:=(B j n ⟨t,u,v⟩).2;omega
 obtain⟨ck,a2⟩:=w.ge j n ⟨t,u,v⟩;obtain⟨bK,b8⟩:=B j n ⟨t,u,v⟩;exact⟨⟨ck,c0 bK L⟩,⟨a2,c0 b8 L⟩⟩
theorem apl (n s:Int) (h:¬(1<=n/\n<=4/\1<=s/\s<=50)) (w:World):
  O 37 #[A n,A s] w λe a=>e=ad (.tuple #[.pointer none,A 1])/\a=w:=by
 by_cases b:n<1
 .go_enter func37,ntmps37;go_wp2;go_ret2
  simp
 by_cases c:4<n
 .go_enter func37,ntmps37;go_wp2;go_ret2
  simp
 by_cases d:s<1
 .go_enter func37,ntmps37;go_wp2;go_ret2
  simp
 have f:50<s:=by omega
 go_enter func37,ntmps37;go_wp2;go_ret2
 simp
theorem apm (N j:Nat) (L:1<=N) (u:N<=4) (M:1<=j) (P:j<=50) (w:World):
  O 37 #[A N,A j] w λe v=>J w v/\∃r x,e=ad (.tuple #[Z r,A 0])/\ei v r (λk=>w.heap.size<=k/\k<v.heap.size) (λ_=>False) N j (λ_=>[]) s0 x:=by
 have Q:=apb N u w;go_enter func37,ntmps37;go_wp2_with fail
 refine Q.mono ?_;rintro e b ⟨rfl,y⟩;have R:=y;have z:=show J w b by obtain⟨_,_,_,S⟩:=y;exact S.dn
 have U:=z.size;go_wp2_with fail
 go_loopw [27] (λi wr=>∃B l C q,l.length<=N/\i=A (l.length:Int)/\Kh b wr N j b.heap.size w.heap.size B l C q) (λi _=>N-(intOf i).toNat)
 case atStart=>refine⟨.slice none 0 0,[],λ_ _=>False,λ_=>⟨0,0,0,0,0,0,0,0,.slice none 0 0,.slice none 0 0,[],(jK,[]),jK,[],λ_=>[],λ_=>False⟩,b6 _,rfl,bZ b _,hg _ _ _ _,λc m=>(by cases m),λc m=>(by simp),λc cB m=>(by simp),λc m=>(by simp),λc m=>(by simp),bW _,λg X=>(by cases X),aV b _⟩
 case round=>
  obtain⟨B,l,C,q,hl,rfl,n⟩:=hrel;by_cases Y:l.length<N
  .have ib:=λW (ah:J wr W)=>apg l.length N j Y u M P W
   obtain⟨a,D,rfl,jT,gP,aH⟩:=bz n.row;unfold maxLen at gP;obtain⟨p,bm⟩:=bD n.bb;have qR:=aU n.bb;have bI:=World.new_ne wr (V b 0) p;have d:=ag n;have Hj:=show some b.heap.size≠(Value.slice a l.length D).ownBlock from λe=>by exact iX d.o.row e.symm d.o.bb (by decide)
   have kN:=ag (show J wr wr.drew from(gb wr));go_wp2_with fail
   go_region_law (first
    |(go_simp;go_at_call 72;refine(ib _ kN.o).mono ?_;rintro e f ⟨⟨t,rfl,qn,h6⟩,bu⟩;have s:=Hq.o (nv bu);replace p:=ak s p;have ox:=s.size;have C7:b.heap.size<f.heap.size:=(by omega);have abx:=World.new_ne f (V b 0) p;have eQ:=ag (bB d.o.bb s);have li:=ag (dI d.o.row s);have cj:=ag s;have iZ:=ag h6;have b9:=ag (show J f (f.alloc (.cells #[Z t] 92)) from aV f _);dsimp only)
    |(refine AI iM 1 8 116 92 (.pointer none) (by rfl) underlying116 rfl (by omega) (λ_=>rfl) (by rfl) (.tmp 34) (.tmp 39) (by rfl) 0 (.slice a l.length D) l (by rfl) (dI li.o b9.o) f.heap.size 1 t (by rfl) (UR (acT (bZ f _))) (Qh t) (by omega) (by unfold maxLen;omega) (b6 _) ?_;intro v4 w4 hM E iu;have F:=ag hM;have mE:=ag E;have ny:=ag iu;have Qr:=((E.block b.heap.size (by simp;omega) (Hj)).trans (is _ _ C7));have I:=ag (Qr.trans eQ.o);obtain⟨a4,lo,rfl,xg,yo,yp⟩:=bz F.o;replace p:=(bD I.o).1;have xX:=cV I.o 0))
   all_goals go_wp2
   all_goals go_roundw
   all_goals first
    |(simp[intOf];omega)
    |exact⟨_,l++[t],_,_,by simp;omega,by simp,d.o.step cj.o (qn:=qn) iZ.o _ F.o mE.o ny.o⟩
  have d:=ag n;go_wp2;go_ret2
  obtain⟨x,az⟩:=d.o.bN R (by omega) L u;exact⟨z.trans (d.o.dn.mono U),b.heap.size,x,rfl,az⟩
def apn (s:bx) (x:da) (c:Nat) (a b:Int) (d:ByteArray) (w:World) (e:Ending) (g:World):Prop:=J w g/\
   ((∃m,nh (c1 (s.ar c)) (a,b) d=.error m/\e=ad (.tuple #[.slice none 0 0,A m]))\/
   (∃o u,∃f:List (PId×eP),bM (c1 (s.ar c)) (a,b)=some o/\o.aS=false/\lP d=true/\e=ad (.tuple #[u,A 0])/\f.Perm (fN (x.q c).D.1 (x.q c).D.2 (a,b) d (0,0)).aK/\oB (f.map (·.1))/\qQ w.heap.size g u (f.map (·.2))))
theorem apo {I:Nat->Prop} {M:Nat->List ay} {s:bx} {x:da} (h:ei b c n I d e M s x) (r:a<d) (g i:Int) (j:ByteArray) (P:j.size<=maxLen):
  O 24 #[Z c,A a,.agg #[A g,A i],.string j] b λf Q=>apn s x a g i j b f Q:=by
 have C:=aV b (af g i);have u9:=(h.xw r).hh (g,i) j (0,0);have aT:=ag h;go_enter func24,ntmps24;go_wp2_with fail
 refine(Re (h.ak C) a r g i j P).mono ?_;rintro f k ⟨R,S⟩;have t:=bp C R;rcases S with⟨m,U,l,rfl⟩|⟨o,X,Y,oX,fq,rfl⟩
 .rcases U with rfl|rfl|rfl
  all_goals go_wp2
  all_goals go_ret2
  all_goals exact(show _/\_ from⟨t.alloc t.size _,.inl ⟨_,l,rfl⟩⟩)
 have v:=aN X (aN Y oX);have w:=t.alloc t.size (.cells #[A g,A i,.string j,A 0,A 0] 97);have D:=bZ k (.cells #[A g,A i,.string j,A 0,A 0] 97);go_wp2_with fail
 go_region_held3 (λW=>W.cell? (V k 0)=some (A g)/\W.cell? (V k 1)=some (A i)/\W.cell? (V k 2)=some (.string j)/\W.cell? (V k 3)=some (A 0)/\W.cell? (V k 4)=some (A 0)) (first |exact fh D|exact fh eQ.o|exact fh E.o)
  (first
   |(go_at_call 48;refine((λW (y:J b W)=>Bx ((h.ak y).m.fi a r)) _ w.drew).mono ?_;rintro f w2 ⟨rfl,F⟩;have E:=ag (bB D (Hq.o (nv F)));have z:=w.drew.trans (F.mono w.size))
   |(go_at_call 49;refine((λW (y:J b W)=>Vr ((h.ak y).m.fi a r).kB.q g i 0 0 j u9.1 u9.2) w2 z).mono ?_;rintro f w3 ⟨u,L,rfl,l,B,p,N⟩;obtain⟨lW,lX,rfl,_,_,_⟩:=bz p;have eQ:=ag (bB E.o N)))
 all_goals(
  go_wp2;go_ret2
  obtain⟨l,B,p⟩:=aN l (aN B p);refine(show _/\_ from⟨bp z N,.inr ⟨o,.slice lW L.length lX,L,v.1,v.2.1,v.2.2,rfl,l,B,?_⟩⟩);rw[c2]at p;exact ii p z.size)
end
