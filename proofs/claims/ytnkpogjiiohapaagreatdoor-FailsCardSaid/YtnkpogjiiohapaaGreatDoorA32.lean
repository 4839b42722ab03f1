/- Our own text. -/
import Derived.Deep.DeepCutAuto
import Derived.Deep.RegionLaw
import Derived.Test.YtnkpogjiiohapaaGreatDoorA31
import Derived.Test.YtnkpogjiiohapaaGreatDoorA29
import Derived.Test.YtnkpogjiiohapaaGreatDoorA28
import Derived.Test.YtnkpogjiiohapaaGreatDoorA26
set_option linter.unusedSimpArgs false
set_option linter.unusedVariables false
set_option maxRecDepth 1000000
set_option maxHeartbeats 8000000
namespace Go.Proofs.YtnkpogjiiohapaaGreatDoor
section
variable {a c f:Nat}{d:Nat->List ar}{e:bn}{h:List ar}{i:Nat->Nat}
structure bP where
 P:Nat->List bH
 has:Nat->Nat->Nat
 wait:Nat->List (Nat×Nat)
 lost:Nat->Nat->Nat
 known:Nat->Nat->Nat->Nat
 ms:Nat->Nat->List jU
 sh:Nat->Nat->Bool
variable {b:bP}
def yN (a:Nat->Nat):hp->jU->Prop
 |.inl l,m=>m.q=true/\l=m.heard.map fun(n:Nat)=>(n:Int)
 |.inr b,m=>m.q=false/\∀i n:Nat,a i<n->((i,n)∈m.refs↔∃x∈b,en x=((i:Int),(n:Int)))
structure Rel (N:Nat) (M:Nat->List ar) (s:bn) (S:bP):Prop where
 made:∀c,c<N->(M c).map (fun o=>e4 o.op)=S.P c
 has:∀c,c<N->∀i,i<N->s.has c i=(S.has c i:Int)
 gt:∀c,c<N->s.gt c=bX ((s.ops c).map fun o=>e4 o.op)
 wait:∀c,c<N->∀i n:Nat,i<N->S.has c i<n->((i,n)∈S.wait c↔(bC ((i:Int),(n:Int)) (s.early c)).isSome=true)
 ms:∀c d,c<N->d<N->c≠d->eb (yN (S.has d)) (s.ms c d) (S.ms c d)
 sh:∀c d,c<N->d<N->c≠d->s.sh c d=S.sh c d
 ll:∀c d,c<N->d<N->c≠d->∀i,i<N->s.ll c d i=(S.known c d i:Int)
 v8:∀c d i,c<N->d<N->i<N->S.lost c i<=S.has d i
theorem yN.more{has:Nat->Nat}(h:∀c,has c<=i c):∀{a:hp} {b:jU},yN has a b->yN i a b
 |.inl _,_,k=>k
 |.inr _,_,k=>⟨k.1,fun c n d=>k.2 c n (asF (h c) d)⟩
theorem eb.ZW {α β:Type} {R:α->β->Prop}:∀{l:List α} {m:List β},l.length=m.length->(∀i (c:i<l.length) (d:i<m.length),R l[i] m[i])->eb R l m
 |[],[],_,_=>trivial
 |[],_::_,h,_=>by simp at h
 |_::_,[],h,_=>by simp at h
 |a::l,b::m,h,k=>⟨k 0 (by simp) (by simp),eb.ZW (by simpa using h) fun i c d=>k (i+1) (by simpa using c) (by simpa using d)⟩
def ng (a:Bool):List jU->List jU->List jU
 |l,[]=>l
 |l,m::b=>ng a (if a=true\/12<=l.length then l else l++[m]) b
theorem M4{R:hp->jU->Prop}(d:Bool):∀{bs:List hp} {us:List jU} {a:List hp} {f:List jU},a.length<=12->eb R a f->eb R bs us->eb R (vU d a bs) (ng d f us)
 |[],[],_,_,_,h,_=>by unfold vU;split <;>exact h
 |[],_::_,_,_,_,_,c=>c.elim
 |_::_,[],_,_,_,_,c=>c.elim
 |b::bs,u::us,a,f,g,h,c=>by
  have j:=h.len;cases d with
  |true=>
   have ih:=M4 true (bs:=bs) (us:=us) g h c.2;unfold vU at ih⊢;rw[if_pos rfl]at ih⊢;unfold ng;rw[if_pos (.inl rfl)];exact ih
  |false=>
   unfold ng;have e:vU false a (b::bs)=vU false (if a.length=12 then a else a++[b]) bs:=rfl;rw[e];by_cases i:a.length=12
   ·rw[if_pos i,if_pos (.inr (by omega))];exact M4 false g h c.2
   rw[if_neg i,if_neg (by simp;omega)];exact M4 false (by simp;omega) (eb.snoc c.1 h) c.2
def fU (S:bP) (c d:Nat) (l:List jU):bP:={S with ms:=upd S.ms c (upd (S.ms c) d l)}
theorem Rel.ja{N M s S l g}(h:Rel N M s S){c d:Nat}(n:c<N)(o:d<N)(p:c≠d)(m:eb (yN (S.has d)) l g):Rel N M (ja s c d l) (fU S c d g):=by
 refine⟨h.made,h.has,h.gt,h.wait,fun a b i j k=> ?_,h.sh,h.ll,h.v8⟩;unfold Go.Proofs.YtnkpogjiiohapaaGreatDoor.ja fU;simp only;by_cases e:a=c
 ·subst e;by_cases f:b=d
  ·subst f;rw[bF,bF,bF,bF];exact m
  rw[bF,b6 _ _ f,bF,b6 _ _ f];exact h.ms a b i j k
 rw[b6 _ _ e,b6 _ _ e];exact h.ms a b i j k
def Ag (N:Nat) (S:bP) (c d:Nat):bP:=if S.sh c d=true\/12<=(S.ms c d).length then S else fU S c d (S.ms c d++[⟨true,(List.range N).map (S.has c),[]⟩])
theorem Rel.ask(h:Rel f d e b)(j:a<f)(l:c<f)(m:a≠c)(s:(e.ms a c).length<=12):Rel f d (B2 f e a c) (Ag f b a c):=by
 have o:=h.ms a c j l m;have t:=o.len;have p:=h.sh a c j l m;unfold B2 Ag;by_cases k:e.sh a c=true\/(e.ms a c).length=12
 ·rw[if_pos k,if_pos (k.imp (fun g=>by rw[<-p];exact g) (fun g=>by omega))];exact h
 rw[if_neg k,if_neg (fun q=>k (q.imp (fun g=>by rw[p];exact g) (fun g=>by omega)))];refine h.ja j l m (eb.snoc (show yN (b.has c) (.inl _) _ from⟨rfl,?_⟩) o);show km f (e.has a)=((List.range f).map (b.has a)).map fun(n:Nat)=>(n:Int)
 unfold km;rw[aqO];exact arx fun i r=>h.has a j i (aqX.1 r)
def Ez (S:bP) (c d:Nat):bP:=fU S c d (S.ms c d).tail
theorem Rel.I0(h:Rel f d e b)(i:a<f)(j:c<f)(k:a≠c):Rel f d (Ab e a c) (if b.ms a c=[] then b else Ez b a c):=by
 have g:=h.ms a c i j k;unfold Ab Ez
 match n:e.ms a c,o:b.ms a c,g with
 |[],[],_=>rw[if_pos rfl];exact h
 |m::l,p::q,g=>rw[if_neg (by simp)];exact h.ja i j k g.2
def Ah (S:bP) (c d:Nat):bP:=match S.ms c d with
 |[]=>S
 |m::l=>if S.sh c d=true then S else fU S c d (l++[m])
theorem Rel.later(h:Rel f d e b)(i:a<f)(j:c<f)(k:a≠c):Rel f d (B5 e a c) (Ah b a c):=by
 have g:=h.ms a c i j k;have n:=h.sh a c i j k;unfold B5 Ah
 match o:e.ms a c,p:b.ms a c,g with
 |[],[],_=>exact h
 |m::l,q::r,g=>
  simp only[n];split
  ·exact h
  exact h.ja i j k (eb.snoc g.1 g.2)
def Ai (S:bP) (c d:Nat):bP:=match S.ms c d with
 |[]=>S
 |m::l=>if S.sh c d=true\/11<=l.length then S else fU S c d (m::l++[m])
theorem Rel.again(h:Rel f d e b)(k:a<f)(n:c<f)(o:a≠c)(p:(e.ms a c).length<=12):Rel f d (B6 e a c) (Ai b a c):=by
 have i:=h.ms a c k n o;have r:=h.sh a c k n o;unfold B6 Ai
 match s:e.ms a c,v:b.ms a c,i with
 |[],[],_=>exact h
 |m::l,q::t,i=>
  have w:=eb.len i.2;rw[s]at p;simp only[aqk]at p;simp only[r];by_cases j:b.sh a c=true\/l.length=11
  ·rw[if_pos j,if_pos (j.imp id fun g=>by omega)];exact h
  rw[if_neg j,if_neg (fun u=>j (u.imp id fun g=>by omega))];exact h.ja k n o (show eb _ ((m::l)++[m]) ((q::t)++[q]) from eb.snoc i.1 i)
def yO (S:bP) (c d:Nat):bP:={S with sh:=upd S.sh c (upd (S.sh c) d true)}
theorem Rel.shut{s}(h:Rel f d s b){c:Nat}(n:c<f)(o:a<f)(p:c≠a):Rel f d (Af s c a) (yO b c a):=by
 refine⟨h.made,h.has,h.gt,h.wait,h.ms,fun e g k l m=> ?_,h.ll,h.v8⟩;unfold Af yO;simp only;by_cases i:e=c
 ·subst i;by_cases j:g=a
  ·subst j;rw[bF,bF,bF,bF]
  rw[bF,b6 _ _ j,bF,b6 _ _ j];exact h.sh e g k l m
 rw[b6 _ _ i,b6 _ _ i];exact h.sh e g k l m
theorem Jj{N M}(i:iO N M){has:Nat->Int}(k:PId)(o:nU):∀(xs:List ar) (m:List (PId×ar)),si N M m->(∀x∈xs,nc N M x)->
  ((bC k (iB has m xs)).map (·.op)=some o↔(∃x∈xs,en x=k/\has x.op.id.2.toNat<x.op.nth/\x.op=o)\/(bC k m).map (·.op)=some o)
 |[],m,_,_=>by
  show((bC k m).map (·.op)=some o↔_);simp
 |x::xs,m,j,n=>by
  have p:=n x aqf;have q:=fun y a=>n y (aqh _ a)
  have e:iB has m (x::xs)=iB has (if has x.op.id.2.toNat<x.op.nth then cE (en x) x m else m) xs:=rfl;rw[e];by_cases c:has x.op.id.2.toNat<x.op.nth
  ·rw[if_pos c];have r:si N M (cE (en x) x m):=by
    have :=si.all (has:=has) (xs:=[x]) j (fun y a=>by obtain rfl:=ap9.1 a;exact p);have s:iB has m [x]=cE (en x) x m:=by
     show(if has x.op.id.2.toNat<x.op.nth then cE (en x) x m else m)=_;rw[if_pos c]
    rw[s]at this;exact this
   rw[Jj i k o xs _ r q,h4];constructor
   ·rintro(⟨y,a,h⟩|h)
    ·exact .inl ⟨y,aqh _ a,h⟩
    by_cases b:k=en x
    ·rw[if_pos b]at h;exact .inl ⟨x,aqf,b.symm,c,by simpa using h⟩
    rw[if_neg b]at h;exact .inr h
   rintro(⟨y,a,d,f,g⟩|h)
   ·rcases aqb.1 a with rfl|a
    ·right
     rw[if_pos d.symm];simp[g]
    exact .inl ⟨y,a,d,f,g⟩
   right
   by_cases b:k=en x
   ·rw[if_pos b];cases l:bC k m with
    |none=>rw[l]at h;cases h
    |some y=>
     rw[l]at h;obtain⟨t,u⟩:=j _ (fL l);have :y=x:=i.YA t p (by rw[<-u];exact b);rw[<-this];exact h
   rw[if_neg b];exact h
  rw[if_neg c,Jj i k o xs m j q];constructor
  ·rintro(⟨y,a,h⟩|h)
   ·exact .inl ⟨y,aqh _ a,h⟩
   exact .inr h
  rintro(⟨y,a,d,f,g⟩|h)
  ·rcases aqb.1 a with rfl|a
   ·exact absurd f c
   exact .inl ⟨y,a,d,f,g⟩
  exact .inr h
theorem ZY:∀(a:List ar) (g:Int),nB g a=g\/∃x∈a,nB g a=x.op.id.1
 |[],g=>.inl rfl
 |y::a,g=>by
  have e:nB g (y::a)=nB (max g y.op.id.1) a:=rfl;rw[e];rcases ZY a (max g y.op.id.1) with h|⟨x,b,h⟩
  ·rw[h];by_cases c:g<=y.op.id.1
   ·exact .inr ⟨y,aqf,by omega⟩
   exact .inl (by omega)
  exact .inr ⟨x,aqh _ b,h⟩
theorem ajH{a:List ar}:bX ((iZ h a).map fun o=>e4 o.op)=nB (bX (h.map fun o=>e4 o.op)) a:=by
 obtain⟨n,f,i⟩:=HD ((iZ h a).map fun o=>e4 o.op);obtain⟨q,j,k⟩:=HD (h.map fun o=>e4 o.op);obtain⟨r,l⟩:=ME a (bX (h.map fun o=>e4 o.op));have c:∀y,y∈iZ h a↔y∈a\/y∈h:=fun y=>by rw[(BF a h).mem_iff,ap7]
 refine Int.le_antisymm ?_ ?_
 ·rcases i with e|⟨p,d,e⟩
  ·omega
  obtain⟨y,b,rfl⟩:=ap5.1 d;rw[<-e,p3];rcases(c y).1 b with b|b
  ·exact l y b
  have :=j _ (ap5.2 ⟨y,b,rfl⟩);rw[p3]at this;omega
 rcases ZY a (bX (h.map fun o=>e4 o.op)) with e|⟨x,m,e⟩
 ·rw[e];rcases k with g|⟨p,d,g⟩
  ·omega
  obtain⟨y,b,rfl⟩:=ap5.1 d;rw[<-g];exact f _ (ap5.2 ⟨y,(c y).2 (.inr b),rfl⟩)
 rw[e];have :=f _ (ap5.2 ⟨x,(c x).2 (.inl m),rfl⟩);rw[p3]at this;exact this
def Gv (b:Nat->Nat) (a:List (Nat×Nat)) (f:Nat×Nat):List (Nat×Nat):=if b f.1<f.2/\f∉a then a++[f] else a
def mC (a:Nat->Nat) (b l:List (Nat×Nat)):List (Nat×Nat):=l.foldl (Gv a) b
theorem ZZ{b:Nat->Nat}{f:Nat×Nat}:∀{l a:List (Nat×Nat)},f∈mC b a l↔f∈a\/(f∈l/\b f.1<f.2)
 |[],a=>by simp[mC]
 |g::l,a=>by
  have e:mC b a (g::l)=mC b (Gv b a g) l:=rfl;rw[e,ZZ (l:=l)];unfold Gv;split
  ·rename_i d
   rw[ap7,ap9,aqb];constructor
   ·rintro((h|rfl)|h)
    ·exact .inl h
    ·exact .inr ⟨.inl rfl,d.1⟩
    exact .inr ⟨.inr h.1,h.2⟩
   rintro(h|⟨rfl|h,c⟩)
   ·exact .inl (.inl h)
   ·exact .inl (.inr rfl)
   exact .inr ⟨h,c⟩
  rename_i d
  rw[aqb];constructor
  ·rintro(h|h)
   ·exact .inl h
   exact .inr ⟨.inr h.1,h.2⟩
  rintro(h|⟨rfl|h,c⟩)
  ·exact .inl h
  ·by_cases i:f∈a
   ·exact .inl i
   exact absurd ⟨c,i⟩ d
  exact .inr ⟨h,c⟩
def runN (a:List (Nat×Nat)) (d:Nat):Nat->Nat->Nat
 |n,0=>n
 |n,f+1=>if(d,n+1)∈a then runN a d (n+1) f else n
theorem Z0(a:List (Nat×Nat))(d:Nat):∀(f n:Nat),n<=runN a d n f
 |0,n=>apX _
 |f+1,n=>by
  unfold runN;split
  ·exact ap0 (aqy _) (Z0 a d f (n+1))
  exact apX _
theorem Z1{c:List (Nat×Nat)}{m:List (PId×ar)}{d b:Nat}(h:∀n,b<n->((d,n)∈c↔(bC ((d:Int),(n:Int)) m).isSome=true)):∀(f n:Nat),b<=n->((runN c d n f:Nat):Int)=(n:Int)+((il m (d:Int) (n:Int) f).length:Int)
 |0,n,_=>by simp[runN,il]
 |f+1,n,j=>by
  have a:=h (n+1) (by omega);have e:((n+1:Nat):Int)=(n:Int)+1:=by omega
  rw[e]at a;unfold runN il;cases g:bC ((d:Int),(n:Int)+1) m with
  |none=>
   rw[g]at a;rw[if_neg (fun i=>by have :=a.1 i;simp at this)];simp
  |some o=>
   rw[g]at a;rw[if_pos (a.2 rfl),Z1 h f (n+1) (by omega),e];simp only[aqk];omega
def uR (S:bP) (c:Nat) (l:List (Nat×Nat)):bP:={S with has:=upd S.has c fun d=>runN (mC (S.has c) (S.wait c) l) d (S.has c d) 61,wait:=upd S.wait c ((mC (S.has c) (S.wait c) l).filter fun f=>decide (runN (mC (S.has c) (S.wait c) l) f.1 (S.has c f.1) 61<f.2))}
theorem Rel.hear{m k}(f:Rel c d e b)(ok:ev c d e)(w:a<c)(C:∀x∈h,nc c d x)(N:yN (b.has a) (.inr h) m)(W:vH (n4 e a h) (qD (n4 e a h) (e.has a) c) k):Rel c d (sk c e a h k) (uR b a m.refs):=by
 have E:=(ok.copy a w).Gm;have P:∀i,i<c->∀n,b.has a i<n->((i,n)∈mC (b.has a) (b.wait a) m.refs↔(bC ((i:Int),(n:Int)) (n4 e a h)).isSome=true):=fun i r n s=>by
  have y:e.has a i<(n:Int):=by rw[f.has a w i r];omega
  have X:(bC ((i:Int),(n:Int)) (n4 e a h)).isSome=true↔∃o,(bC ((i:Int),(n:Int)) (n4 e a h)).map (·.op)=some o:=by
   cases bC ((i:Int),(n:Int)) (n4 e a h)<;>simp
  have Y:(bC ((i:Int),(n:Int)) (e.early a)).isSome=true↔∃o,(bC ((i:Int),(n:Int)) (e.early a)).map (·.op)=some o:=by
   cases bC ((i:Int),(n:Int)) (e.early a)<;>simp
  rw[ZZ,X,f.wait a w i n r s,Y];constructor
  ·rintro(⟨o,z⟩|⟨aH,_⟩)
   ·exact⟨o,(Jj ok.made _ o h _ E C).2 (.inr z)⟩
   obtain⟨x,F,u⟩:=(N.2 i n s).1 aH;refine⟨x.op,(Jj ok.made _ _ h _ E C).2 (.inl ⟨x,F,u,?_,rfl⟩)⟩;unfold en at u;have Q:x.op.id.2=(i:Int):=congrArg Prod.fst u;have R:x.op.nth=(n:Int):=congrArg Prod.snd u;rw[Q,R,ar4];exact y
  rintro⟨o,z⟩;rcases(Jj ok.made _ o h _ E C).1 z with⟨x,F,u,_,_⟩|z
  ·exact .inr ⟨(N.2 i n s).2 ⟨x,F,u⟩,s⟩
  exact .inl ⟨o,z⟩
 have eI:=ok.wait w C;have apw:hasAll (e.has a) (nd c e a h)=sj (n4 e a h) (e.has a) c:=IY eI.1 c (apX _);have S:∀i,i<c->sj (n4 e a h) (e.has a) c i=((runN (mC (b.has a) (b.wait a) m.refs) i (b.has a i) 61:Nat):Int):=fun i r=>by
  unfold sj;rw[if_pos r,Z1 (P i r) 61 (b.has a i) (apX _),f.has a w i r]
 have I:∀i,b.has a i<=runN (mC (b.has a) (b.wait a) m.refs) i (b.has a i) 61:=fun i=>Z0 _ _ _ _
 refine⟨f.made,fun g v i r=> ?_,fun g v=> ?_,fun g v i n r s=> ?_,fun p l L y cF=> ?_,f.sh,f.ll,fun p l i L y r=> ?_⟩
 ·unfold sk l5 uR;simp only;by_cases t:g=a
  ·subst t;rw[bF,bF,apw];exact S i r
  rw[b6 _ _ t,b6 _ _ t];exact f.has g v i r
 ·unfold sk l5;simp only;by_cases t:g=a
  ·subst t;rw[bF,bF,f.gt g v];exact ajH.symm
  rw[b6 _ _ t,b6 _ _ t];exact f.gt g v
 ·unfold uR at s⊢;unfold sk l5;simp only at s⊢;by_cases t:g=a
  ·subst t;rw[bF]at s;rw[bF,bF,aqL];have dK:((i:Int),(n:Int))∉qD (n4 e g h) (e.has g) c:=fun D=>by
    unfold qD at D;obtain⟨j,au,D⟩:=aqq.1 D;obtain⟨q,ak,k⟩:=ap5.1 D;have Q:(j:Int)=(i:Int):=congrArg Prod.fst k;have R:e.has g j+1+(q:Int)=(n:Int):=congrArg Prod.snd k;obtain rfl:j=i:=by omega
    have U:=S j r;unfold sj at U;rw[if_pos r]at U;have h2:=aqX.1 ak;omega
   rw[W.look _ dK,P i r n (asF (I i) s)];constructor
   ·exact fun M=>M.1
   exact fun M=>⟨M,decide_eq_true s⟩
  rw[b6 _ _ t]at s;rw[b6 _ _ t,b6 _ _ t];exact f.wait g v i n r s
 ·have :=f.ms p l L y cF;unfold sk l5 uR;simp only;by_cases B:l=a
  ·subst B;rw[bF];exact eb.imp (fun _ _=>yN.more I) this
  rw[b6 _ _ B];exact this
 have :=f.v8 p l i L y r;unfold uR;simp only;by_cases B:l=a
 ·subst B;rw[bF];exact ap0 this (I i)
 rw[b6 _ _ B];exact this
def l9 (heard has:Nat->Nat) (n:Nat):List (Nat×Nat):=(List.range n).flatMap fun d=>(List.range (has d-heard d)).map fun j=>(d,heard d+1+j)
def M5 (f:Nat×Nat):PId:=((f.1:Int),(f.2:Int))
theorem Z2{a b:Nat->Nat}{c d:Nat->Int}{N:Nat}(e:∀i,i<N->c i=(a i:Int))(f:∀i,i<N->d i=(b i:Int)):∀n,n<=N->kn c d n=(l9 a b n).map M5
 |0,_=>rfl
 |n+1,g=>by
  have ih:=Z2 e f n (by omega);rw[Mn,ih];unfold l9;rw[aqI,aqG,aqi];congr 1;simp only[aqm,ash,aqB];unfold rm;rw[aqO,e n (by omega),f n (by omega)];rw[show((b n:Int)-(a n:Int)).toNat=b n-a n by omega];exact arx fun j _=>by
   unfold M5;exact Prod.ext rfl (by simp)
def ry (N:Nat) (heard a b:Nat->Nat):List jU:=(List.range (min (chunks (l9 heard a N).length) 3)).map fun j=>⟨false,[],(((l9 heard a N).drop (8*j)).take 8).filter fun f=>decide (b f.1<f.2)⟩
theorem ajJ{b d:Nat->Nat}(e:c<(ry a i b d).length):(ry a i b d)[c]=⟨false,[],(((l9 i b a).drop (8*c)).take 8).filter fun f=>decide (d f.1<f.2)⟩:=by
 have h:c<min (chunks (l9 i b a).length) 3:=by
  have :=e;unfold ry at this;rw[ap2,aq6]at this;exact this
 have g:(ry a i b d)[c]?=some ⟨false,[],(((l9 i b a).drop (8*c)).take 8).filter fun f=>decide (d f.1<f.2)⟩:=by
  unfold ry;rw[ark,asG h];rfl
 rw[aq2 e]at g;exact aqP g
theorem Rel.ajK(o:Rel c d e b)(ok:ev c d e)(w:f<c)(q:a<c){l:List Int}(S:∀g,g<c->rowOf l g=(i g:Int))(y:h.Perm ((e.kept a).filter (sg (rowOf l))))(U:yy h):
  eb (yN (b.has f)) ((Gj h (rowOf l) (e.has a) c).map (IK h)) (ry c i (b.has a) (b.lost a)):=by
 have I:kn (rowOf l) (e.has a) c=(l9 i (b.has a) c).map M5:=Z2 S (fun g W=>o.has a q g W) c (apX _);have X:(h.map en).Sublist (kn (rowOf l) (e.has a) c):=by
  refine Se (aqN.2 U) (Sd _ _ _) fun k z=> ?_
  obtain⟨x,B,rfl⟩:=ap5.1 z;obtain⟨C,v⟩:=aqL.1 (y.mem_iff.1 B);have t:x∈e.ops a:=by rw[ok.l3 a q];exact arW _ C
  obtain⟨m,r,Y⟩:=Gn.1 ((ok.copy a q).perm.mem_iff.1 t);obtain⟨j,au,L⟩:=aqv.1 Y;rw[aqg]at au;rw[arR]at L;obtain⟨s,u,g3⟩:=ok.made.id m r j (by omega);rw[L]at s u;have M:rowOf l x.op.id.2.toNat<x.op.nth:=of_decide_eq_true v;refine Sc.2 ⟨m,r,s,?_,?_⟩
  ·rw[s]at M;exact M
  show x.op.nth<=e.has a m;rw[u];omega
 have gu:=ZT X (ajG (Sd _ _ _)) (min (chunks (kn (rowOf l) (e.has a) c).length) 3);have hlen:(kn (rowOf l) (e.has a) c).length=(l9 i (b.has a) c).length:=by rw[I,ap2]
 refine eb.ZW ?_ fun j N h2=> ?_
 ·unfold Gj ry;rw[ap2,ap2,Mr,hlen]
 rw[ap2]at N;rw[aqH];rw[ajJ h2];have P:=gu.2 j N;refine⟨rfl,fun g n hn=> ?_⟩;show(g,n)∈(((l9 i (b.has a) c).drop (8*j)).take 8).filter _↔_;have IG:partOf (kn (rowOf l) (e.has a) c) j=(((l9 i (b.has a) c).drop (8*j)).take 8).map M5:=by
  unfold partOf;rw[I,<-List.map_drop,<-aru]
 have ajL:((g:Int),(n:Int))∈partOf (kn (rowOf l) (e.has a) c) j↔(g,n)∈((l9 i (b.has a) c).drop (8*j)).take 8:=by
  rw[IG,ap5];constructor
  ·rintro⟨p,D,m⟩;have E:(p.1:Int)=(g:Int):=congrArg Prod.fst m;have Q:(p.2:Int)=(n:Int):=congrArg Prod.snd m;have :p=(g,n):=Prod.ext (by simp;omega) (by simp;omega);rw[<-this];exact D
  exact fun D=>⟨(g,n),D,rfl⟩
 rw[aqL,<-ajL];constructor
 ·rintro⟨F,_⟩;have hL:((g:Int),(n:Int))∈kn (rowOf l) (e.has a) c:=by
   unfold partOf at F;exact aq8 (aqE F)
  obtain⟨m,r,E,Q,cS⟩:=Sc.1 hL;have Cl:(g:Int)=(m:Int):=E;obtain rfl:g=m:=by omega
  have Cm:rowOf l g<(n:Int):=Q;have e3':(n:Int)<=e.has a g:=cS;have bA:=(ok.copy a q).km g r;have mM:n-1<(d g).length:=by omega
  obtain⟨s,u,g3⟩:=ok.made.id g r (n-1) mM;have t:(d g)[n-1]∈e.ops a:=by
   refine(ok.copy a q).perm.mem_iff.2 (Gn.2 ⟨g,r,?_⟩);refine aqv.2 ⟨n-1,by rw[aqg];omega,by rw[arR]⟩
  have R:en (d g)[n-1]=((g:Int),(n:Int)):=Prod.ext s (by show(d g)[n-1].op.nth=(n:Int);rw[u];omega);refine⟨(d g)[n-1],(P _).2 ⟨y.mem_iff.2 (aqL.2 ⟨?_,?_⟩),by rw[R];exact F⟩,R⟩
  ·rw[ok.l3 a q]at t;rcases ap7.1 t with ag|z
   ·exfalso;have :=ok.Es a q _ ag f w;rw[s,ar4,u,o.has f w g r]at this;omega
   exact z
  refine decide_eq_true ?_;rw[s,ar4,u];omega
 rintro⟨x,B,m⟩;obtain⟨C,v⟩:=(P x).1 B;rw[m]at v;refine⟨v,decide_eq_true ?_⟩;have Z3:g<c:=by
  obtain⟨Ja,_⟩:=aqL.1 (y.mem_iff.1 C);have t:x∈e.ops a:=by rw[ok.l3 a q];exact arW _ Ja
  obtain⟨_,_,gX,I2⟩:=ok.made.nth ((ok.copy a q).made t);have E:x.op.id.2=(g:Int):=congrArg Prod.fst m;omega
 exact asF (o.v8 a f g q w Z3) hn
def wa (S:bP) (d c:Nat) (a:Nat->Nat):bP:={S with known:=upd S.known d (upd (S.known d) c fun i=>max (S.known d c i) (a i))}
def nG (N:Nat) (S:bP) (c d:Nat):bP:=match S.ms c d with
 |[]=>S
 |m::a=>if m.q=true then fU (wa (fU S c d a) d c fun i=>m.heard.getD i 0) d c (ng (S.sh d c) (S.ms d c) (ry N (fun i=>m.heard.getD i 0) (S.has d) (S.lost d))) else uR (fU S c d a) d m.refs
theorem Rel.Ad{I}(h:Rel f d e b)(ok:ev f d e)(p:a<f)(o:c<f)(q:a≠c)(N:(e.ms c a).length<=12)(r:tz f e a c I):Rel f d I (nG f b a c):=by
 have s:=h.ms a c p o q;have x:=ok.msgs a c p o q;have q1:=ok.tx a c p o q;unfold tz at r;unfold nG
 match k:e.ms a c,X:b.ms a c,s with
 |[],[],_=>
  rw[k]at r;subst r;exact h
 |.inl l::v,m::L,s=>
  rw[k]at r;obtain⟨Y,P,t,rfl⟩:=r;obtain⟨⟨w,y⟩,z⟩:=s;simp only[w,if_true];have M:∀i,i<f->rowOf l i=((m.heard.getD i 0:Nat):Int):=fun i u=>by
   rw[y];unfold rowOf;simp only[List.getD,ark];cases m.heard[i]?<;>rfl
  have Q:=h.ajK ok p o M P t;have n:=h.ja p o q z;have R:Rel f d (En (Go.Proofs.YtnkpogjiiohapaaGreatDoor.ja e a c v) c a (rowOf l)) (wa (fU b a c L) c a fun i=>m.heard.getD i 0):=by
   refine⟨n.made,n.has,n.gt,n.wait,n.ms,n.sh,fun g j t B C i u=> ?_,n.v8⟩;unfold En wa;simp only;by_cases D:g=c
   ·subst D;by_cases E:j=a
    ·subst E;rw[bF,bF,bF,bF,n.ll g j t B C i u,M i u];omega
    rw[bF,b6 _ _ E,bF,b6 _ _ E];exact n.ll g j t B C i u
   rw[b6 _ _ D,b6 _ _ D];exact n.ll g j t B C i u
  have S:(Go.Proofs.YtnkpogjiiohapaaGreatDoor.ja e a c v).ms c a=e.ms c a:=by
   unfold Go.Proofs.YtnkpogjiiohapaaGreatDoor.ja;simp only;rw[b6 _ _ (aqa q)]
  rw[S,h.sh c a o p (aqa q)];exact R.ja o p (aqa q) (M4 _ N (h.ms c a o p (aqa q)) Q)
 |.inr xs::v,m::L,s=>
  rw[k]at r x q1;obtain⟨apS,U,rfl⟩:=r;obtain⟨⟨w,y⟩,z⟩:=s;simp only[w,aqM,if_false];have n:=h.ja p o q z;have W:ev f d (Go.Proofs.YtnkpogjiiohapaaGreatDoor.ja e a c v):=ok.ms (fun m F=>x m (aqh _ F)) (fun m F=>q1 m (aqh _ F));exact n.hear W o (x _ aqf) ⟨w,y⟩ U
def jF (S:bP) (c:Nat) (a:List bH):bP:={S with P:=upd S.P c (S.P c++a),has:=fun d i=>if d=c/\i=c then(S.P c++a).length else S.has d i}
theorem ajM(h:b.has a a=(b.P a).length):jF b a []=b:=by
 unfold jF;have c:upd b.P a (b.P a++[])=b.P:=by
  funext i;by_cases e:i=a
  ·subst e;rw[bF,aqB]
  rw[b6 _ _ e]
 have f:(fun d i=>if d=a/\i=a then(b.P a++[]).length else b.has d i)=b.has:=by
  funext d i;split
  ·rename_i e
   rw[e.1,e.2,aqB,h]
  rfl
 rw[c,f]
theorem Rel.ajN(h:Rel c d e b)(q:a<c)(B:e.has a a=(d a).length)(p:lg)(t:TypeId)(v:Value):Rel c (nF d e a p t v) (fg e a p t v) (jF b a [e4 (kk a (e.gt a) (e.has a) p t v).op]):=by
 have C:(b.P a).length=(d a).length:=by rw[<-h.made a q,ap2]
 have D:=h.has a q a q;have r:∀j i,b.has j i<=(if j=a/\i=a then(b.P a++[e4 (kk a (e.gt a) (e.has a) p t v).op]).length else b.has j i):=fun j i=>by
  split
  ·rename_i f
   rw[f.1,f.2,ap4,aq1];omega
  exact apX _
 refine⟨fun f m=> ?_,fun f m i o=> ?_,fun f m=> ?_,fun f m i n o x=> ?_,fun k g s u y=> ?_,h.sh,h.ll,fun k g i s u o=>ap0 (h.v8 k g i s u o) (r g i)⟩
 ·unfold nF jF;simp only;by_cases l:f=a
  ·subst l;rw[oa,bF,aqi,h.made f m];rfl
  rw[sn _ _ l,b6 _ _ l];exact h.made f m
 ·unfold fg l5 jF;simp only;by_cases l:f=a
  ·subst l;rw[bF];by_cases w:i=f
   ·subst w;rw[bF,if_pos ⟨rfl,rfl⟩,ap4,aq1];omega
   rw[b6 _ _ w,if_neg (fun h=>w h.2)];exact h.has f m i o
  rw[b6 _ _ l,if_neg (fun h=>l h.1)];exact h.has f m i o
 ·by_cases l:f=a
  ·subst l;rw[Gu,Gt,aqi,h.gt f m];refine(HE _ _ ?_).symm;rw[p3];rfl
  unfold fg l5;simp only;rw[b6 _ _ l,b6 _ _ l];exact h.gt f m
 ·have z:b.has f i<n:=asF (r f i) x;have :=h.wait f m i n o z;unfold fg l5 jF;simp only;by_cases l:f=a
  ·subst l;rw[bF];exact this
  rw[b6 _ _ l];exact this
 exact eb.imp (fun _ _=>yN.more (r g)) (h.ms k g s u y)
theorem Rel.wrote{N c:Nat}(b:c<N):∀(a:List bH) {M f:Nat->List ar} {s g:bn} {S:bP},Rel N M s S->s.has c c=(M c).length->l8 c a M s f g->Rel N f g (jF S c a)
 |[],M,f,s,g,S,h,l,⟨j,k⟩=>by
  subst j k;have r:(S.P c).length=(f c).length:=by rw[<-h.made c b,ap2]
  rw[ajM (by have :=h.has c b c b;omega)];exact h
 |p::a,M,f,s,g,S,h,l,⟨n,t,v,j,k⟩=>by
  have m:=h.ajN b l n t v;rw[j]at m;have :=Rel.wrote b a m (by rw[aja];unfold nF;rw[oa,ap4,aq1];omega) k;have e:jF (jF S c [p]) c a=jF S c (p::a):=by
   unfold jF;simp only[bF];have o:upd (upd S.P c (S.P c++[p])) c ((S.P c++[p])++a)=upd S.P c (S.P c++(p::a)):=by
    funext i;by_cases e:i=c
    ·subst e;rw[bF,bF,aqs];rfl
    rw[b6 _ _ e,b6 _ _ e,b6 _ _ e]
   have q:(fun d i=>if d=c/\i=c then((S.P c++[p])++a).length else if d=c/\i=c then(S.P c++[p]).length else S.has d i)=(fun d i=>if d=c/\i=c then(S.P c++(p::a)).length else S.has d i):=by
    funext d i;split
    ·rw[aqs];rfl
    rfl
   rw[o,q]
  rw[e]at this;exact this
end
section
open Go.RowKit Tryz
attribute [local go_sem ↓] Go.wp_at_zero Go.wp_at_succ
variable {a c d e h i j k l:Nat}{b f:World}{m:Nat->Nat->Prop}{n:Nat->Prop}{q:Value}
theorem ajO(W:World):(Instr.makeChan 151 (A 12)).run prog W=.ok (.chan (some W.heap.size)) (W.alloc (.chan 12 #[] false 0 0 false)):=by
 unfold Instr.makeChan;go_simp
 decide+kernel
theorem ajP(w:World):O 127 #[] w fun e a=>e=.returned (Z (w.heap.size+1))/\hq a (w.heap.size+1) w.heap.size [] false 0 0/\J w a:=by
 have c:=ajO w;go_enter func127,ntmps127;go_wp2;go_ret
 have b:(w.alloc (.chan 12 #[] false 0 0 false)).heap.size=w.heap.size+1:=by simp
 refine⟨by simp,⟨?_,?_,by simp⟩,((apY _ w).alloc (apX _) _).alloc (by simp) _⟩
 ·rw[<-b];exact bI _ _
 rw[hK _ _ (by simp)];exact heap_alloc_new w _
structure Aj (w wr:World) (b:Nat) (P:Nat->Nat->Prop) (lm:List (PId×Nat)) (gl gc:Nat->Nat->Nat):Prop where
 map:∃es aT,isMap c0 Rz wr b lm es aT
 look:∀c d,P c d->bC ((c:Int),(d:Int)) lm=some (gl c d)
 z8:∀x y:Int,(¬∃c d:Nat,P c d/\x=c/\y=d)->bC (x,y) lm=none
 link:∀c d,P c d->hq wr (gl c d) (gc c d) [] false 0 0
 inj:∀c d b7 ch,P c d->P b7 ch->gc c d=gc b7 ch->c=b7/\d=ch
 ge:∀c d,P c d->w.heap.size<=gl c d/\w.heap.size<=gc c d
 Sf:w.heap.size<=b
 below:J w wr
def Ak (w wr:World) (b:Nat) (P:Nat->Nat->Prop):Prop:=∃a c d,Aj w wr b P a c d
theorem Aj.congr{wr}{e:Nat->Nat->Prop}(h:Ak b wr a m)(f:∀c d,e c d↔m c d):Ak b wr a e:=by
 have :e=m:=by funext c d;simp_all
 simp_all
theorem Aj.put{w wr b P g t}{l:World}(h:Ak w wr b P){k j:Nat}(hn:¬P k j)(n:J wr l)(m:hq l g t [] false 0 0)(ag:wr.heap.size<=g)(Sh:wr.heap.size<=t):
  ∃C,(Instr.mapUpdate 117 (.map (some b)) (.agg #[A (k:Int),A (j:Int)]) (Z g)).run prog l=.ok () C/\Ak w C b fun c d=>P c d\/(c=k/\d=j):=by
 obtain⟨R,f,i,h⟩:=h;obtain⟨es,aT,u⟩:=h.map;obtain⟨D,E,S,U⟩:=xJ QC (u.ae n) underlying117 ((k:Int),(j:Int)) g;have eX:=u.lt;have r:aO (fun k=>k=b) l (putObj l b (.map D E)):=aO.put _ rfl;have W:∀{f i:Nat} {v:World},hq v f i [] false 0 0->v.heap[b]?=l.heap[b]?->f≠b/\i≠b:=fun{f i v} m X=>by
  have Y:=(u.ae n).blk;rw[<-X]at Y;refine⟨fun e=> ?_,fun e=> ?_⟩
  ·have :=m.blk;simp_all
  have :=m.lA;simp_all
 have F:∀{f i:Nat},hq l f i [] false 0 0->hq (putObj l b (.map D E)) f i [] false 0 0:=fun{f i} m=>by
  obtain⟨I,L⟩:=W m rfl;exact m.j3 (tN I) (tN L)
 have s:∀c d,P c d->f c d<wr.heap.size/\i c d<wr.heap.size:=fun c d a=>⟨aN (h.link c d a).blk,(ap8.1 (h.link c d a).lA).1⟩
 have T7:∀c d,P c d->¬(c=k/\d=j):=fun c d a e=>by simp_all
 refine⟨_,S,cE ((k:Int),(j:Int)) g R,fun c d=>if c=k/\d=j then g else f c d,fun c d=>if c=k/\d=j then t else i c d,⟨_,_,U⟩,fun c d a=> ?_,fun x y M=> ?_,fun c d a=> ?_,fun c d z B a N e=> ?_,fun c d a=> ?_,h.Sf,?_⟩
 ·rw[h4];by_cases e:c=k/\d=j
  ·rw[if_pos (by rw[e.1,e.2]),if_pos e]
  rw[if_neg (fun Q=>e (by have I:=congrArg Prod.fst Q;have L:=congrArg Prod.snd Q;omega)),if_neg e];exact h.look c d (a.resolve_right e)
 ·rw[h4,if_neg (fun e=>M ⟨k,j,.inr ⟨rfl,rfl⟩,congrArg Prod.fst e,congrArg Prod.snd e⟩)];exact h.z8 x y fun⟨c,d,a,e⟩=>M ⟨c,d,.inl a,e⟩
 ·by_cases e:c=k/\d=j
  ·simp only[e,and_self,if_true];exact F m
  simp only[e,if_false];exact F ((fun c d a=>(h.link c d a).j3 (n.block _ (s c d a).1) (n.block _ (s c d a).2)) c d (a.resolve_right e))
 ·by_cases o:c=k/\d=j<;>by_cases p:z=k/\B=j
  ·omega
  ·simp only[o,and_self,if_true,p,if_false]at e;have :=(s z B (N.resolve_right p)).2;omega
  ·simp only[o,if_false,p,and_self,if_true]at e;have :=(s c d (a.resolve_right o)).2;omega
  simp only[o,if_false,p]at e;exact h.inj c d z B (a.resolve_right o) (N.resolve_right p) e
 ·have AU:=h.below.size;by_cases e:c=k/\d=j
  ·simp only[e,and_self,if_true];omega
  simp only[e,if_false];exact h.ge c d (a.resolve_right e)
 have q:=h.below.trans (n.mono h.below.size);have KN:=h.Sf;exact⟨r.os.trans q.os,r.tape.trans q.tape,r.output.trans q.output,ap0 q.size r.size,fun k hk=>(tN (by omega)).trans (q.block k hk)⟩
theorem ajQ(N:Nat)(p:N<=4)(w:World):O 71 #[A N] w fun e h=>e=.returned (.map (some w.heap.size))/\Ak w h w.heap.size fun c d=>c<N/\d<N/\c≠d:=by
 have q:=FG 117 w;go_enter func71,ntmps71;go_wp2_with fail
 go_loopw [8] (fun i wr=>∃k:Nat,k<=N/\i=A k/\Ak w wr w.heap.size fun c d=>c<k/\d<N/\c≠d) (fun i _=>N-(intOf i).toNat)
 case atStart=>exact⟨0,apZ _,rfl,show Ak w (w.alloc (.map #[] 0)) w.heap.size fun c d=>c<0/\d<N/\c≠d from⟨[],fun _ _=>0,fun _ _=>0,⟨_,_,isMap.fresh c0 Rz w⟩,fun c d a=>by omega,fun _ _ _=>rfl,fun c d a=>by omega,fun c d _ _ a=>by omega,fun c d a=>by omega,apX _,(apY w.heap.size w).alloc (apX _) (.map #[] 0)⟩⟩
 case round=>
  obtain⟨k,r,rfl,f⟩:=hrel;by_cases s:k<N
  ·obtain⟨g,rfl⟩:∃g,g=wr:=⟨_,rfl⟩;go_wp2_with fail
   go_loopw [12] (fun i wr=>∃j:Nat,j<=N/\i=A j/\Ak w wr w.heap.size fun c d=>(c<k/\d<N/\c≠d)\/(c=k/\d<j/\c≠d)) (fun i _=>N-(intOf i).toNat)
   case atStart=>exact⟨0,apZ _,rfl,Aj.congr f (fun c d=>by omega)⟩
   case round=>
    obtain⟨j,t,rfl,b⟩:=hrel;by_cases u:j<N
    ·by_cases l:k=j
     ·subst l;go_wp2;go_roundw
      case rel=>exact⟨k+1,by omega,by go_num,Aj.congr b (fun c d=>by omega)⟩
      case measure=>simp[intOf];omega
     have v:¬((k:Int)=(j:Int)):=by omega
     go_wp2_with fail
     refine(ajP _).mono ?_;rintro e x ⟨rfl,m,n⟩;obtain⟨y,z,o⟩:=Aj.put b (k:=k) (j:=j) (by omega) n m (by omega) (by omega);go_wp2;go_roundw
     case rel=>exact⟨j+1,by omega,by go_num,Aj.congr o (fun c d=>by omega)⟩
     case measure=>simp[intOf];omega
    go_wp2;go_roundw
    case rel=>exact⟨k+1,by omega,by go_num,Aj.congr b (fun c d=>by omega)⟩
    case measure=>simp[intOf];omega
  go_wp2;go_ret
  exact⟨rfl,Aj.congr f (fun c d=>by omega)⟩
structure uS (B:Nat) (w':World) (sp:Int) (ab iC d0 cy cC d aB be:Nat):Prop where
 jT:w'.heap[ab]?=some (.cells #[A sp,A 0,.slice none 0 0,.slice (some (H iC)) 1 1,Z d] 204 (0,0))
 rem:w'.heap[iC]?=some (.cells #[Z d0] 101 (0,0))
 jx:cz w' d0 cy cC iz.1 iz.2
 q:cz w' d aB be iz.1 iz.2
 ge:B<=ab/\B<=iC/\B<=d0/\B<=cy/\B<=cC/\B<=d/\B<=aB/\B<=be
 ne:cy≠cC/\cy≠aB/\cy≠be/\cC≠aB/\cC≠be/\aB≠be
theorem cz.Z5(h:cz b a c d iz.1 iz.2)(g:∀k,(k=a\/k=c\/k=d)->f.heap[k]?=b.heap[k]?):cz f a c d iz.1 iz.2:=by
 obtain⟨i,j,l⟩:=h.af;obtain⟨m,n,o⟩:=h.he;refine⟨by rw[g a (.inl rfl)];exact h.ai,⟨i,j,l.gJ (g c (.inr (.inl rfl)))⟩,⟨m,n,o.gJ (g d (.inr (.inr rfl)))⟩,fun p e=> ?_,fun p e=>by cases e⟩;simp[iz]at e;subst e;exact⟨.inl ⟨rfl,rfl⟩,fun q r=>by cases r⟩
theorem cz.xn{e f}(h:cz b a c d e f):a<b.heap.size/\c<b.heap.size/\d<b.heap.size:=by
 obtain⟨_,_,g⟩:=h.af;obtain⟨_,_,i⟩:=h.he;exact⟨aN h.ai,g.lt,i.lt⟩
theorem uS.xn{B w j a b c e f d g i}(h:uS B w j a b c e f d g i):a<w.heap.size/\b<w.heap.size/\c<w.heap.size/\e<w.heap.size/\f<w.heap.size/\d<w.heap.size/\g<w.heap.size/\i<w.heap.size:=
 ⟨aN h.jT,aN h.rem,h.jx.xn.1,h.jx.xn.2.1,h.jx.xn.2.2,h.q.xn.1,h.q.xn.2.1,h.q.xn.2.2⟩
theorem uS.Z6{p}(m:uS l b p a c d e h i j k)(o:∀g,g=a\/g=c\/g=d\/g=e\/g=h\/g=i\/g=j\/g=k->f.heap[g]?=b.heap[g]?):uS l f p a c d e h i j k:=
 ⟨(o _ (.inl rfl)).trans m.jT,(o _ (.inr (.inl rfl))).trans m.rem,m.jx.Z5 fun g n=>o g (by rcases n with n|n|n<;>simp[n]),m.q.Z5 fun g n=>o g (by simp_all),m.ge,m.ne⟩
theorem uS.ae{w f g m}{w':World}(b:uS a w f c d h i j l g m)(n:J w w'):uS a w' f c d h i j l g m:=by
 obtain⟨o,p,q,r,s,t,u,v⟩:=b.xn;refine b.Z6 fun k e=>n.block k ?_
 omega
theorem uS.mono{w sp}{B':Nat}(b:uS a w sp c d e h i j k l)(f:B'<=a):uS B' w sp c d e h i j k l:=by
 obtain⟨g,m,n,o,p,r,s,t⟩:=b.ge;exact⟨b.jT,b.rem,b.jx,b.q,⟨by omega,by omega,by omega,by omega,by omega,by omega,by omega,by omega⟩,b.ne⟩
theorem ajR(g:Int)(w:World):
  O 128 #[A g] w fun e k=>(∃l q b r s d h i,e=.returned (Z l)/\uS w.heap.size k g l q b r s d h i)/\J w k:=by
 go_enter func128,ntmps128;go_wp2_with fail
 refine(Wq w).mono ?_;rintro e a ⟨⟨b,t,u,rfl,m,D,E,F,v⟩,n⟩;go_wp2_with fail
 refine(Wq (a.alloc (.cells #[Z b] 101))).mono ?_;rintro e c ⟨⟨d,h,i,rfl,x,y,z,B,C⟩,j⟩;simp at y z B j;have o:=show c.heap[a.heap.size]?=some (.cells #[Z b] 101 (0,0)) from(j.block a.heap.size (by omega)).trans (bI a _)
 have p:=((apY a.heap.size a).alloc (apX _) (.cells #[Z b] 101)).trans (j.mono (by omega));have I:=aN o;go_wp2;go_ret
 have f:=(apY c.heap.size c).alloc (apX _) (.cells #[A g,A 0,.slice none 0 0,.slice (some (V a 0)) 1 1,Z d] 204);obtain⟨L,M,N⟩:=m.xn;exact⟨⟨c.heap.size,a.heap.size,b,t,u,d,h,i,rfl,bI c _,bj o f,(m.ae p).ae f,x.ae f,⟨by omega,by omega,by omega,by omega,by omega,by omega,by omega,by omega⟩,v,by omega,by omega,by omega,by omega,C⟩,(n.trans (p.mono n.size)).trans (f.mono (by omega))⟩
theorem Z8(N:Nat):pN N=p1 N fun _=>0:=by
 have a:(pN N).toList=List.replicate N (A 0):=by
  unfold pN;have :=toList_madeCells_one (A 0) (N*1);rw[arn]at this⊢;exact this
 apply Array.ext';rw[a];unfold p1;apply arF
 ·simp
 simp
theorem ajS{o:Obj}(h:a=b.heap.size):(b.alloc o).heap[a]?=some o:=by rw[h];exact bI b o
theorem ajT{o:Obj}(h:a≠b.heap.size):(b.alloc o).heap[a]?=b.heap[a]?:=by
 by_cases c:a<b.heap.size
 ·exact hK _ _ c
 have d:b.heap[a]?=none:=by simp;omega
 have e:(b.alloc o).heap[a]?=none:=by simp;omega
 rw[d,e]
theorem ajU{w:World}(a:J b f)(h:J w b):J w f:=h.trans (a.mono h.size)
structure Sm (w wc:World) (N sp c:Nat) (p:Value) (a1 eR ab iC d0 cy cC d aB be ik jm:Nat):Prop where
 p:p=Z a1
 blk:wc.heap[a1]?=some (.cells #[A c,A 0,.slice (some (H eR)) N N,Z ab,.map (some ik),.map (some jm)] 109 (0,0))
 heard:wc.heap[eR]?=some (.cells (pN N) 3 (0,0))
 early:wc.heap[ik]?=some (.map #[] 0)
 new:wc.heap[jm]?=some (.map #[] 0)
 rz:uS w.heap.size wc sp ab iC d0 cy cC d aB be
 ge:w.heap.size<=a1/\w.heap.size<=eR/\w.heap.size<=ik/\w.heap.size<=jm
 gg:ik≠jm/\(∀k,k=cy\/k=cC\/k=aB\/k=be->ik≠k/\jm≠k)
 below:J w wc
def Gw (m:List (Int×Nat)):Prop:=∀d a g,bC d m=some g->bC a m=some g->d=a
theorem Gw.put{m}(h:Gw m){k:Int}(i:∀p∈m,p.2≠a):Gw (cE k a m):=fun d f g c b=>by
 rw[h4]at c b;by_cases j:d=k
 ·by_cases e:f=k
  ·omega
  rw[if_neg e]at b;rw[if_pos j]at c;cases c;exact absurd rfl (i _ (fL b))
 rw[if_neg j]at c;by_cases e:f=k
 ·rw[if_pos e]at b;cases b;exact absurd rfl (i _ (fL c))
 rw[if_neg e]at b;exact h d f g c b
def M6 (wc wr:World) (N c k a:Nat) (m:List (Int×Nat)):Prop:=(∃b e,isMap zN (QE N) wr a m b e)/\(∀p∈m,wr.heap[p.2]?=some (.cells (pN N) 3 (0,0))/\wc.heap.size<=p.2)/\((∀d:Nat,d<k->d≠c->∃g,bC (d:Int) m=some g)/\Gw m/\(∀p∈m,∃d:Nat,d<N/\d≠c/\p.1=(d:Int))/\(m.map (·.1)).Nodup)/\aO (fun k=>k=a) wc wr
def Z9 (w a:World) (N b c e:Nat) (q:fS):Prop:=dA a e (fun k=>w.heap.size<=k/\k<a.heap.size) (fun _=>False) N b c 0 (fun _=>0) [] [] q/\q.D0=(iz,[])/\(∀d:Nat,d<N->d≠c->∃g,bC (d:Int) q.kX=some g)/\(Gw q.kX/\(∀p∈q.kX,∃d:Nat,d<N/\d≠c/\p.1=(d:Int))/\(q.kX.map (·.1)).Nodup)/\∀g,q.ea g=List.replicate N 0
theorem aab(e:a≠c)(f:¬n a)(g:¬n c):fM a c n iz.1 iz.2:=by
 refine⟨e,f,g,fun p d b h=> ?_,fun p d k i b h=> ?_,fun p d=>by cases d⟩
 ·simp[iz]at d
  simp_all
 simp[iz]at d
 simp_all
theorem Sm.rep{wc wr D a1 X s Y N m}(p:Sm b wc j D a q a1 X c l k d e s h i Y N)(hm:M6 wc wr j a j N m)(hc:a<j)(hN:j<=4)(h1:1<=D)(h2:D<=50):(∃v,Z9 b wr j D a a1 v)/\J b wr:=by
 obtain⟨⟨E,F,gD⟩,fe,uB,C⟩:=hm;have z:=fun n y I=>C.other n y I
 have B:∀n a t f,wc.heap[n]?=some (.cells a t f)->n≠N:=fun n a t f y g=>by rw[g,p.new]at y;cases y
 obtain⟨g1,g2,g3,g4⟩:=p.ge;obtain⟨u1,u2,u3,u4,u5,u6,u7,u8⟩:=p.rz.ge;obtain⟨dC,cA,zq,F6,Si,Sj,Sk,Sl⟩:=p.rz.xn;obtain⟨cH,b8,oN,Ql,n5,n6⟩:=p.rz.ne;have nW:=(z _ (aN p.blk) (B _ _ _ _ p.blk)).trans p.blk;have dz:=(z _ (aN p.heard) (B _ _ _ _ p.heard)).trans p.heard;have ao5:=(ap8.1 p.early).1;have fc:=(z _ ao5 p.gg.1).trans p.early;have P:uS b.heap.size wr D c l k d e s h i:=p.rz.Z6 fun n g=>by
  rcases g with rfl|rfl|rfl|rfl|rfl|rfl|rfl|rfl
  ·exact z _ dC (B _ _ _ _ p.rz.jT)
  ·exact z _ cA (B _ _ _ _ p.rz.rem)
  ·exact z _ zq (B _ _ _ _ p.rz.jx.ai)
  ·exact z _ F6 (aqa (p.gg.2 _ (.inl rfl)).2)
  ·exact z _ Si (aqa (p.gg.2 _ (.inr (.inl rfl))).2)
  ·exact z _ Sj (B _ _ _ _ p.rz.q.ai)
  ·exact z _ Sk (aqa (p.gg.2 _ (.inr (.inr (.inl rfl)))).2)
  exact z _ Sl (aqa (p.gg.2 _ (.inr (.inr (.inr rfl)))).2)
 have eX:J b wr:=⟨C.os.trans p.below.os,C.tape.trans p.below.tape,C.output.trans p.below.output,ap0 p.below.size C.size,fun n y=>(C.other n (ap3 y p.below.size) (by omega)).trans (p.below.block n y)⟩;have Fj:=C.size;have lb:=aN p.blk;have apx:=aN p.heard;have apy:=gD.lt;have Q:∀{n:Nat} {a:Array Value} {t:TypeId} {f:Nat×Nat},wc.heap[n]?=some (.cells a t f)->n≠Y:=fun{n a t f} y g=>by rw[g,p.early]at y;cases y
 have R:∀{n u:Nat} {a:Array Value} {t:TypeId} {f:Nat×Nat},wc.heap[n]?=some (.cells a t f)->(∃E F,isMap c0 pL wc u iz.1 E F)\/(∃E F,isMap c0 oY wc u iz.2 E F)->n≠u:=fun{n u a t f} y c g=>by
  rcases c with⟨_,_,c⟩|⟨_,_,c⟩<;>(have :=c.blk;rw[<-g,y]at this;cases this)
 have S:∀{n Sn:Nat} {a b7:Array Value} {t mh:TypeId} {f:Nat×Nat},wc.heap[n]?=some (.cells a t f)->wc.heap[Sn]?=some (.cells b7 mh f)->t≠mh->n≠Sn:=fun{n Sn a b7 t mh f} y cN I g=>by
  rw[g,cN]at y;injection y with y;injection y with _ y;exact I y.symm
 have L:=p.rz.jx;have M:=p.rz.q;have aac:∀{n:Nat} {a:Array Value} {t:TypeId},wc.heap[n]?=some (.cells a t (0,0))->t≠204->t≠101->t≠174->¬(n=c\/n=l\/n=k\/n=d\/n=e\/n=s\/n=h\/n=i):=fun{n a t} y U a2 a3 g=>by
  rcases g with g|g|g|g|g|g|g|g
  ·exact S y p.rz.jT U g
  ·exact S y p.rz.rem a2 g
  ·exact S y L.ai a3 g
  ·exact R y (.inl L.af) g
  ·exact R y (.inr L.he) g
  ·exact S y M.ai a3 g
  ·exact R y (.inl M.af) g
  exact R y (.inr M.he) g
 have aad:nY [(⟨k,d,e,iz⟩:lj)] h i=[d,e,h,i]:=rfl;have W:∀n,(n=d\/n=e\/n=h\/n=i)->¬oz (fun n=>n=c\/n=l\/n=k\/n=d\/n=e\/n=s\/n=h\/n=i) [(⟨k,d,e,iz⟩:lj)] h i n:=fun n y ax=>ax.2 (by rw[aad];simpa using y)
 refine⟨⟨⟨X,c,Y,N,0,s,h,i,.slice none 0 0,.slice (some (H l)) 1 1,[⟨k,d,e,iz⟩],(iz,[]),iz,m,fun _=>List.replicate j 0,fun n=>n=c\/n=l\/n=k\/n=d\/n=e\/n=s\/n=h\/n=i⟩,⟨nW,by rw[<-Z8];exact dz,?_,by simp,List.Pairwise.nil,⟨#[],0,⟨fc,rfl,by simp,by simp⟩⟩,fun q ah=>(by cases ah),⟨E,F,gD⟩,?_,hc,hN,⟨g1,ap3 lb Fj⟩,⟨g2,ap3 apx Fj⟩,⟨g3,ap3 ao5 Fj⟩,⟨g4,apy⟩,?_,?_,?_,?_,?_,p.gg.1,fun n y=>y.2,fun n y=>y.elim⟩,rfl,fun ch cK I=>uB.1 ch cK I,uB.2,fun _=>rfl⟩,eX⟩
 ·refine⟨P.jT,aqe _ _ _ _,fun o af=>(by cases af),?_,h1,h2,h1,apX _,by simp,?_,?_,P.q,aab n6 (W _ (by simp)) (W _ (by simp)),fH.root,rfl,?_,.inl rfl,fun n y=>(by cases y),fun n y=>(by cases y;exact .inr (.inl rfl)),?_,by simp,by simp,by simp,?_,fun n y=>y.elim,fun n y=>y.elim⟩
  ·exact⟨by simp[iI],.inr ⟨l,1,_,rfl,apZ _,P.rem,by simp,by unfold maxLen;simp,by simp,by simp[iI]⟩⟩
  ·intro r aH;obtain rfl:=ap9.1 aH;exact⟨P.jx,aab cH (W _ (by simp)) (W _ (by simp)),fH.root⟩
  ·intro w au;have :w=0:=by simpa using au
   subst this;show mT iz (List.take (0*D-0) []) iz;rw[List.take_nil];rfl
  ·rw[aad];simp;omega
  ·intro r aH;obtain rfl:=ap9.1 aH;simp
  intro n y;rcases y with g|g|g|g|g|g|g|g<;>omega
 ·intro q ah;obtain⟨U,a2⟩:=fe q ah;refine⟨⟨by simp,?_⟩,by show q.2≠X;omega,⟨by omega,aN U⟩,?_⟩
  ·rw[U,Z8];unfold p1;congr 3;rw[List.map_replicate];exact arF (by simp) fun x _ _=>by simp
  intro g;rcases g with g|g|g|g|g|g|g|g<;>omega
 ·intro n y;show b.heap.size<=n/\n<wr.heap.size;rcases y with g|g|g|g|g|g|g|g<;>omega
 ·exact aac p.blk (by decide) (by decide) (by decide)
 ·exact aac p.heard (by decide) (by decide) (by decide)
 ·intro g;rcases g with g|g|g|g|g|g|g|g
  ·exact Q p.rz.jT g.symm
  ·exact Q p.rz.rem g.symm
  ·exact Q L.ai g.symm
  ·exact(p.gg.2 _ (.inl rfl)).1 g
  ·exact(p.gg.2 _ (.inr (.inl rfl))).1 g
  ·exact Q M.ai g.symm
  ·exact(p.gg.2 _ (.inr (.inr (.inl rfl)))).1 g
  exact(p.gg.2 _ (.inr (.inr (.inr rfl)))).1 g
 intro g;rcases g with g|g|g|g|g|g|g|g
 ·exact B _ _ _ _ p.rz.jT g.symm
 ·exact B _ _ _ _ p.rz.rem g.symm
 ·exact B _ _ _ _ L.ai g.symm
 ·exact(p.gg.2 _ (.inl rfl)).2 g
 ·exact(p.gg.2 _ (.inr (.inl rfl))).2 g
 ·exact B _ _ _ _ M.ai g.symm
 ·exact(p.gg.2 _ (.inr (.inr (.inl rfl)))).2 g
 exact(p.gg.2 _ (.inr (.inr (.inr rfl)))).2 g
theorem ajV(c N l:Nat)(hc:c<N)(R:N<=4)(n:1<=l)(h2:l<=50)(w:World):
  O 72 #[A c,A N,A l] w fun e S=>(∃j,e=.returned (Z j)/\∃q,Z9 w S N l c j q)/\J w S:=by
 have He:=Pb N R;have nx:=FG 106;have oE:=FG 107;have wQ:=aa (ajR (l:Int));go_enter func72,ntmps72;go_wp2_with fail
 go_cut [7,11,13,14,15] (fun p s h m1 m2 wc=>∃j I t u v x y d z B L f,s=.slice (some (H I)) N N/\h=Z t/\m1=.map (some L)/\m2=.map (some f)/\Sm w wc N l c p j I t u v x y d z B L f)
 case first =>
  go_region_with (first |(go_at_call 128;refine(wQ.o _).mono ?_;rintro e w1 ⟨⟨t,u,v,x,y,d,z,B,rfl,C⟩,D⟩;have dv:=aa (ajU (w:=w) D (by go_grown));obtain⟨dC,cA,zq,F6,Si,Sj,Sk,Sl⟩:=C.xn;obtain⟨g1,g2,g3,g4,g5,g6,g7,g8⟩:=C.ge;(try simp at g1 g2 g3 g4 g5 g6 g7 g8);have bM:=D.size;(try simp at bM);have Lp:=aa (C.mono (B':=w.heap.size) (by simp <;>omega));have ay:=aa D;clear C D))
  all_goals(go_wp2_with fail;go_meet)
  all_goals refine⟨_,_,t,u,v,x,y,d,z,B,_,_,rfl,rfl,rfl,rfl,rfl,?_,?_,?_,?_,Lp.o.ae (by go_grown),⟨by omega,by omega,by omega,by omega⟩,⟨by omega,fun k hk=>by omega⟩,dv.o.trans (Below.mono (by go_grown:J w1 _) (by omega))⟩
  all_goals repeat' (first
   |exact ajS (by first |rfl|omega|(simp;done)|(simp;omega))
   |(refine(ajT (by first |omega|(simp;done)|(simp;omega))).trans ?_)
   |(refine(ay.o.block _ (by first |omega|(simp;done)|(simp;omega))).trans ?_))
 case rest=>
  obtain⟨j,I,t,u,v,x,y,d,z,B,L,f,rfl,rfl,rfl,rfl,E⟩:=hcut;have b:=E.p;subst b;have r:=aa E;have jC:wc.cell? (K j 5)=some (.map (some f)):=by simp[World.cell?,E.blk]
  clear E nx oE;have HM0:=aa (show M6 wc wc N c 0 f [] from⟨⟨#[],0,⟨r.o.new,rfl,by simp,by simp⟩⟩,fun p b=>(by cases b),⟨fun d ai=>absurd ai (aq7 _),fun d F g n=>(by cases n),fun p b=>(by cases b),arh⟩,aO.cJ (apY _ _)⟩);have pJ:=aN r.o.blk;go_wp2_with fail
  go_loopw [19] (fun i wr=>∃k:Nat,k<=N/\i=A k/\∃m,M6 wc wr N c k f m) (fun i _=>N-(intOf i).toNat)
  case atStart=>exact⟨0,apZ _,rfl,_,HM0.o⟩
  case round=>
   obtain⟨k,hk,rfl,m,U⟩:=hrel;have a:=aa U;clear U;have d5:wr.cell? (K j 5)=some (.map (some f)):=a.o.2.2.2.cell (fun e=>by have n:=r.o.blk;rw[e,r.o.new]at n;cases n) jC;have adP:j<wr.heap.size:=ap3 pJ a.o.2.2.2.size;by_cases aE:k<N
   ·by_cases W:k=c
    ·subst W;go_wp2;go_roundw
     case rel=>exact⟨k+1,by omega,by go_num,m,a.o.1,a.o.2.1,⟨fun F cK X=>a.o.2.2.1.1 F (by omega) X,a.o.2.2.1.2⟩,a.o.2.2.2⟩
     case measure=>simp[intOf];omega
    have X:¬((k:Int)=(c:Int)):=by omega
    have M:=aa (show J wr ((wr.alloc (.cells (pN N) 3)).drew) from((apY wr.heap.size wr).alloc (apX _) (.cells (pN N) 3)).drew);obtain⟨es,aT,P⟩:=a.o.1;have aoC:=P.lt;have HMA:=aa (P.ae M.o);clear P;obtain⟨eW,fp,fl,Y⟩:=xJ Xx HMA.o underlying107 (k:Int) wr.heap.size;simp only[zN,QE]at fl;have Q1:=aa Y;clear Y;have pK:=aa (show M6 wc (putObj ((wr.alloc (.cells (pN N) 3)).drew) f (.map eW fp)) N c (k+1) f (cE (k:Int) wr.heap.size m) from by
     refine⟨⟨_,_,Q1.o⟩,fun p b=> ?_,⟨fun F cK ajW=> ?_,a.o.2.2.1.2.1.put fun p b e=> ?_,fun p b=> ?_,DE a.o.2.2.1.2.2.2⟩,(a.o.2.2.2.trans (aO.cJ M.o)).trans (aO.put _ rfl)⟩
     ·have Q:p.2≠f/\((wr.alloc (.cells (pN N) 3)).drew).heap[p.2]?=some (.cells (pN N) 3 (0,0))/\wc.heap.size<=p.2:=by
       rcases ox b with b|rfl
       ·obtain⟨b2,a2⟩:=a.o.2.1 p b;refine⟨fun e=> ?_,(M.o.block _ (aN b2)).trans b2,a2⟩;have :=(ap8.1 r.o.new).1;omega
       have Fj:=a.o.2.2.2.size;exact⟨by show wr.heap.size≠f;omega,bI wr _,Fj⟩
      exact⟨(tN Q.1).trans Q.2.1,Q.2.2⟩
     ·rw[h4];split
      ·exact⟨_,rfl⟩
      exact a.o.2.2.1.1 F (by omega) ajW
     ·have :=aN (a.o.2.1 p b).1;omega
     rcases ox b with b|rfl
     ·exact a.o.2.2.1.2.2.1 p b
     exact⟨k,aE,W,rfl⟩)
    have aoD:=He;go_wp2_with fail
    go_region
    all_goals go_wp2
    all_goals go_roundw
    all_goals first
     |exact⟨k+1,by omega,by go_num,_,pK.o⟩
     |(simp[intOf];omega)
   have ho:k=N:=by omega
   subst ho;go_wp2;go_ret
   obtain⟨ak,eX⟩:=r.o.rep a.o hc R n h2;exact⟨⟨j,rfl,ak⟩,eX⟩
def Co (a:World) (b:Nat) (F:Nat->Prop) (N e c:Nat) (q:fS):Prop:=dA a b F (fun _=>False) N e c 0 (fun _=>0) [] [] q/\q.D0=(iz,[])/\(∀d:Nat,d<N->d≠c->∃g,bC (d:Int) q.kX=some g)/\(Gw q.kX/\(∀p∈q.kX,∃d:Nat,d<N/\d≠c/\p.1=(d:Int))/\(q.kX.map (·.1)).Nodup)/\∀g,q.ea g=List.replicate N 0
theorem Co.gw{w d F N sp c q}{a:World}(h:Co w d F N sp c q)(e:w.heap.size<=a.heap.size)(b:∀k,F k->a.heap[k]?=w.heap[k]?):Co a d F N sp c q:=⟨h.1.gw e b (fun _ b=>b.elim),h.2⟩
theorem Co.ae{w c q}{w':World}(h:Co w a n d e c q)(b:J w w'):Co w' a n d e c q:=h.gw b.size fun k f=>b.block k (h.1.lt k f)
structure Gx (w wr:World) (N sp r jK:Nat) (aJ:Value) (l:List Nat) (h8:Nat->Nat->Prop) (q:Nat->fS):Prop where
 blk:wr.heap[r]?=some (.cells #[aJ,.map (some jK)] 119 (0,0))
 row:wr.ownsRow 0 92 1 aJ l.length (l.flatMap iI)
 eK:∀c (hc:c<l.length),Co wr l[c] (h8 c) N sp c (q c)
 new:∀c,c<l.length->∀j,h8 c j->w.heap.size<=j
 jn:∀c b7,c<l.length->b7<l.length->c≠b7->∀k,h8 c k->¬h8 b7 k
 pg:∀c,c<l.length->¬h8 c r
 yF:∀c,c<l.length->∀g,aJ.ownBlock=some g->¬h8 c g
 Sp:w.heap.size<=r
 Sq:∀g,aJ.ownBlock=some g->w.heap.size<=g
 below:J w wr
theorem Gx.step{w wr r B l s qn}(n:Gx w wr d e r h B l m s)(y:J wr b)(Y:Co b a (fun k=>wr.heap.size<=k/\k<b.heap.size) d e l.length qn)(o:Obj)(S:f.ownsRow 0 92 1 q (l.length+1) ((l++[a]).flatMap iI))(C:(b.alloc o).grownBy f B.ownBlock)(oV:iR (b.alloc o) B q):
  Gx w (f.setCell (H r) q) d e r h q (l++[a]) (fun c=>if c=l.length then fun k=>wr.heap.size<=k/\k<b.heap.size else m c) (fun c=>if c=l.length then qn else s c):=by
 have pJ:=aN n.blk;have U:=y.size;have hrC:B.ownBlock≠some r:=fun p=>by
  obtain⟨cur,v⟩:=bq n.row p;exact absurd (bK v n.blk) (by decide)
 have F:=fun k t I=>(C.block k (by simp;omega) I).trans (hK _ _ t)
 have P:∀g,q.ownBlock=some g->g<b.heap.size->B.ownBlock=some g:=fun g x Q=>by
  rcases oV with W|W
  ·simp_all
  have :=W g x;simp at this;omega
 have fs:=(F r (by omega) (aqa hrC)).trans ((y.block r pJ).trans n.blk);have ajX:q.ownBlock≠some r:=fun p=>by
  obtain⟨cur,v⟩:=bq S p
  simp_all
 have z:(l++[a]).length=l.length+1:=by simp
 have R:b.heap.size<=(f.setCell (H r) q).heap.size:=by have :=C.size;simp[World.setCell]at this⊢;omega
 have X:=fun g x=>(ap1 n.row g x).2
 refine⟨?_,?_,?_,?_,?_,?_,?_,n.Sp,?_,?_⟩
 ·have :=setRow (i:=0) (u:=q) fs
  simp_all
 ·rw[z];exact iV S ajX _
 ·intro c v;rw[z]at v;by_cases p:c=l.length
  ·subst p;simp only[if_true,List.getElem_concat_length];refine Y.gw R fun k t=>(dy (by omega)).trans (F k t.2 (fun p=> ?_))
   have :=X k p.symm;omega
  have D:c<l.length:=by omega
  simp only[p,if_false];rw[arv D];refine((n.eK c D).ae y).gw R fun k t=>(dy (show k≠r from fun p=>n.pg c D (p▸t))).trans (F k (ap3 ((n.eK c D).1.lt k t) U) (fun p=>n.yF c D k p.symm t))
 ·intro c v j L;by_cases p:c=l.length
  ·subst p;simp only[if_true]at L;exact ap0 n.below.size L.1
  simp only[p,if_false]at L;exact n.new c (by rw[z]at v;omega) j L
 ·intro c M v cg I k t E;rw[z]at v cg;by_cases p:c=l.length
  ·subst p;have N:¬M=l.length:=fun p=>I p.symm
   simp only[if_true]at t;simp only[N,if_false]at E;have :=(n.eK M (by omega)).1.lt k E;omega
  simp only[p,if_false]at t;by_cases N:M=l.length
  ·subst N;simp only[if_true]at E;have :=(n.eK c (by omega)).1.lt k t;omega
  simp only[N,if_false]at E;exact n.jn c M (by omega) (by omega) I k t E
 ·intro c v hF;rw[z]at v;by_cases p:c=l.length
  ·subst p;simp only[if_true]at hF;omega
  simp only[p,if_false]at hF;exact n.pg c (by omega) hF
 ·intro c v g x hF;rw[z]at v;by_cases p:c=l.length
  ·subst p;simp only[if_true]at hF;have :=X g (P g x hF.2);omega
  simp only[p,if_false]at hF;have Q:=(n.eK c (by omega)).1.lt g hF;exact n.yF c (by omega) g (P g x (by omega)) hF
 ·intro g x;by_cases Q:g<b.heap.size
  ·exact n.Sq g (P g x Q)
  have :=n.below.size;omega
 refine⟨C.os.trans (y.os.trans n.below.os),C.tape.trans (y.tape.trans n.below.tape),C.output.trans (y.output.trans n.below.output),ap0 (ap0 n.below.size U) R,fun k t=> ?_⟩;have AU:=n.below.size;have qm:=n.Sp;rw[dy (by omega),F k (by omega) (fun p=>by have :=n.Sq k p.symm;omega),y.block k (by omega),n.below.block k t]
theorem ajY(l:List Nat):l.flatMap iI=(List.range l.length).flatMap fun c=>iI (l.getD c 0):=by
 have :l=(List.range l.length).map fun c=>l.getD c 0:=by
  apply arF
  ·simp
  simp_all
 conv=>lhs;rw[this]
 rw[List.flatMap_map]
def s0:bn:=⟨fun _=>0,fun _ _=>0,fun _=>[],fun _=>[],fun _=>[],fun _=>[],fun _ _ _=>0,fun _ _=>[],fun _ _=>false⟩
theorem ok0:ev a (fun _=>[]) s0:=by
 refine⟨⟨fun c _ i l=>(by cases l),fun c _=>(by simp),fun c _=>List.Pairwise.nil⟩,fun c b=>⟨fun e n=>⟨ary _,by simp[s0]⟩,?_,fun o q=>(by cases q),fun p r=>(by cases r),arh⟩,fun c b=>rfl,fun c b=>List.Pairwise.nil,fun c b=>⟨ary _,fun g _ h=>h⟩,fun e n y j=>(by cases j),fun c d _ _ _ m f=>(by cases f),fun c b=>rfl,fun c d _ _ _ m f=>(by cases f),fun c d _ _ _=>⟨fun i _=>⟨ary _,ary _⟩,fun y j=>(by simp)⟩,fun c b g k=>(by cases k),fun c b g k=>(by simp)⟩;have :oD (fun _=>[]) (s0.has c) a=[]:=by
  unfold oD;simp
 rw[this];rfl
theorem md0:B8 a (fun _=>[]):=fun c _ i b=>by cases b
theorem Gx.room{wr l s}(o:Gx b wr c e h d q l m s)(Q:Ak f b d fun j n=>j<c/\n<c/\j≠n)(R:l.length=c)(h1:1<=c)(S:c<=4):∃x,dL wr h (fun k=>f.heap.size<=k/\k<wr.heap.size) (fun _=>False) c e (fun _=>[]) s0 x:=by
 obtain⟨a,U,r,kC,gM,W⟩:=bm o.row;obtain⟨C,E⟩:=W 0 (by omega);subst E;subst r;subst R;obtain⟨X,F,I,w⟩:=Q;obtain⟨Y,aT,M⟩:=w.map;have L:=o.below.size;have qm:=o.Sp;have B:∀j n,j<l.length/\n<l.length/\j≠n->F j n<b.heap.size/\I j n<b.heap.size:=fun j n D=>⟨aN (w.link j n D).blk,(ap8.1 (w.link j n D).lA).1⟩
 have N:=M.lt;have KN:=w.Sf;refine⟨⟨C,U,d,X,fun j=>l.getD j 0,m,s,F,I,fun _ _=>[],fun _ _=>0,fun _ _=>0⟩,⟨o.blk,by rw[<-ajY];exact o.row,S,fun j t=> ?_,fun j t=> ?_,fun j t=>rfl,fun j n t u v=>(by
  obtain⟨g,ag⟩:=(o.eK j t).2.2.1 n u (aqa v);refine⟨g,ag,fun i hi=> ?_⟩;rw[(o.eK j t).2.2.2.2 g];simp[rowOf,s0,hi]),fun j t=>(o.eK j t).2.2.2.1,⟨Y,aT,M.gJ (o.below.block _ N)⟩,fun j n t u v=>w.look j n ⟨t,u,v⟩,fun x y dK=>w.z8 x y fun⟨j,n,⟨gm,k3,np⟩,aj,E⟩=>dK ⟨j,n,gm,k3,np,aj,E⟩,fun j n t u v=>(w.link j n ⟨t,u,v⟩).j3 (o.below.block _ (B j n ⟨t,u,v⟩).1) (o.below.block _ (B j n ⟨t,u,v⟩).2),fun _ _ _ _ _=>trivial,fun j n b7 ch t u v cg cK ajZ r=>w.inj j n b7 ch ⟨t,u,v⟩ ⟨cg,cK,ajZ⟩ r,fun j t k z=>⟨ap0 w.below.size (o.new j t k z),(o.eK j t).1.lt k z⟩,o.jn,o.pg,fun j t=>o.yF j t C rfl,fun j t hF=> ?_,fun r P j n t u v=>⟨fun hF=> ?_,fun hF=> ?_⟩,⟨by omega,aN o.blk⟩,⟨ap0 w.below.size (o.Sq C rfl),(ap1 o.row C rfl).2⟩,⟨KN,ap3 N L⟩,fun j n t u v=> ?_,fun k z=>z.2,fun k z=>z.elim,fun k z=>z.elim⟩,ok0,md0⟩
 ·have :=(o.eK j t).1;show dA wr (l.getD j 0) _ _ _ _ _ _ _ _ _ _;rw[asc,aq2 t];exact this
 ·rw[(o.eK j t).2.1];exact⟨e1.root,fH.root,fun p D=>(by simp[iz]at D;simp_all),rfl⟩
 ·have :b.heap.size<=d:=o.new j t _ hF;omega
 ·have h2:b.heap.size<=F j n:=o.new r P _ hF;have al:=(B j n ⟨t,u,v⟩).1;omega
 ·have h2:b.heap.size<=I j n:=o.new r P _ hF;have al:=(B j n ⟨t,u,v⟩).2;omega
 obtain⟨b2,a2⟩:=w.ge j n ⟨t,u,v⟩;obtain⟨bx,bU⟩:=B j n ⟨t,u,v⟩;exact⟨⟨b2,ap3 bx L⟩,⟨a2,ap3 bU L⟩⟩
theorem aj0(n s:Int)(h:¬(1<=n/\n<=4/\1<=s/\s<=50))(w:World):
  O 37 #[A n,A s] w fun e a=>e=.returned (.tuple #[.pointer none,A 1])/\a=w:=by
 by_cases b:n<1
 ·go_enter func37,ntmps37;go_wp2;go_ret2
  simp
 by_cases c:4<n
 ·go_enter func37,ntmps37;go_wp2;go_ret2
  simp
 by_cases d:s<1
 ·go_enter func37,ntmps37;go_wp2;go_ret2
  simp
 have f:50<s:=by omega
 go_enter func37,ntmps37;go_wp2;go_ret2
 simp
theorem aj1(N n:Nat)(S:1<=N)(u:N<=4)(U:1<=n)(X:n<=50)(w:World):
  O 37 #[A N,A n] w fun e v=>J w v/\∃r x,e=.returned (.tuple #[Z r,A 0])/\dL v r (fun k=>w.heap.size<=k/\k<v.heap.size) (fun _=>False) N n (fun _=>[]) s0 x:=by
 have Y:=aa (ajQ N u w);go_enter func37,ntmps37;go_wp2_with fail
 refine Y.o.mono ?_;rintro e b ⟨rfl,y⟩;have sY:=aa y;have B:=aa (show J w b by obtain⟨_,_,_,cv⟩:=y;exact cv.below);clear y;have hz1:=B.o.size;go_wp2_with fail
 go_loopw [27] (fun i wr=>∃C l D q,l.length<=N/\i=A (l.length:Int)/\Gx b wr N n b.heap.size w.heap.size C l D q) (fun i _=>N-(intOf i).toNat)
 case atStart=>
  refine⟨.slice none 0 0,[],fun _ _=>False,fun _=>⟨0,0,0,0,0,0,0,0,.slice none 0 0,.slice none 0 0,[],(iz,[]),iz,[],fun _=>[],fun _=>False⟩,apZ _,rfl,bI b _,aqe _ _ _ _,fun c d=>(by cases d),fun c d=>(by cases d),fun c b7 d=>(by cases d),fun c d=>(by cases d),fun c d=>(by cases d),apX _,fun g ag=>(by cases ag),(apY _ b).alloc (apX _) _⟩
 case round=>
  obtain⟨C,l,D,q,hl,rfl,m⟩:=hrel;by_cases aE:l.length<N
  ·have gE:=aa (fun W (ab:J wr W)=>ajV l.length N n aE u U X W);obtain⟨a,E,rfl,kC,gM,aD⟩:=bm m.row;clear aD;unfold maxLen at gM;obtain⟨s,a6⟩:=bl m.blk;have pJ:=aN m.blk;have bp:=World.new_ne wr (V b 0) s;have f:=aa m;clear m;have DR:=aa (show some b.heap.size≠(Value.slice a l.length E).ownBlock from fun e=>by
    obtain⟨cur,d⟩:=bq f.o.row e.symm;exact absurd (bK d f.o.blk) (by decide))
   have kS:=aa (show J wr wr.drew from(apY _ wr).drew);go_wp2_with fail
   go_region_law (first
    |(go_simp;go_at_call 72;refine(gE.o _ kS.o).mono ?_;rintro e j ⟨⟨t,rfl,qn,F⟩,I⟩;have p:=Hq.o (mx I);clear I;replace s:=ae p s;have mR:=p.size;have zK:b.heap.size<j.heap.size:=(by omega);have W5:=World.new_ne j (V b 0) s;have ek:=aa (bj f.o.blk p);have js:=aa (c7 f.o.row p);have bB:=aa p;have hy:=aa F;clear p F;have bL:=aa (show J j (j.alloc (.cells #[Z t] 92)) from(apY _ j).alloc (apX _) _);dsimp only)
    |(refine xO iI 1 8 116 92 (.pointer none) (by kernel_rfl) underlying116 rfl (by omega) (fun _=>rfl) (by rfl) (.tmp 34) (.tmp 39) (by rfl) 0 (.slice a l.length E) l (by rfl) (c7 js.o bL.o) j.heap.size 1 t (by rfl) (P8 (RH (bI j _))) (P7 t) (by omega) (by unfold maxLen;omega) (apZ _) ?_;intro v4 w4 L z M;have P:=aa L;have j8:=aa z;have iY:=aa M;have Q:w4.heap[b.heap.size]?=j.heap[b.heap.size]?:=((z.block b.heap.size (by simp;omega) (DR.o)).trans (hK _ _ zK));have R:=aa (Q.trans ek.o);clear Q L z M;obtain⟨a4,j9,rfl,uv,vC,wX⟩:=bm P.o;clear uv vC wX;replace s:=(bl R.o).1;have vb:=cG R.o 0))
   all_goals go_wp2
   all_goals go_roundw
   all_goals first
    |(simp[intOf];omega)
    |exact⟨_,l++[t],_,_,by simp;omega,by simp,f.o.step bB.o (qn:=qn) hy.o _ P.o j8.o iY.o⟩
  have f:=aa m;clear m;go_wp2;go_ret2
  obtain⟨x,ao⟩:=f.o.room sY.o (by omega) S u;exact⟨B.o.trans (f.o.below.mono hz1),b.heap.size,x,rfl,ao⟩
def aj2 (s:bn) (x:cI) (c:Nat) (a b:Int) (d:ByteArray) (w:World) (e:Ending) (g:World):Prop:=J w g/\
   ((∃m,lS (cq (s.ops c)) (a,b) d=.error m/\e=.returned (.tuple #[.slice none 0 0,A m]))\/
   (∃o u,∃f:List (PId×dU),bt (cq (s.ops c)) (a,b)=some o/\o.list=false/\kr d=true/\e=.returned (.tuple #[u,A 0])/\f.Perm (eZ (x.q c).D.1 (x.q c).D.2 (a,b) d (0,0)).aC/\mX (f.map (·.1))/\oT w.heap.size g u (f.map (·.2))))
theorem aj3{I M s x}(h:dL b c n I d e M s x)(r:a<d)(g i:Int)(j:ByteArray)(Y:j.size<=maxLen):
  O 24 #[Z c,A a,.agg #[A g,A i],.string j] b fun f w'=>aj2 s x a g i j b f w':=by
 have w:=aa ((apY b.heap.size b).alloc (apX _) (.cells #[A g,A i] 36));have bY:=aa (MP (h.ae w.o) a r g i j Y);have gL:=aa (fun W (y:J b W)=>yw ((h.ae y).m.eK a r));have z:=(h.uN r).fX (g,i) j (0,0);have dT:=aa (fun W (y:J b W)=>QL ((h.ae y).m.eK a r).jT.q g i 0 0 j z.1 z.2);have az:=aa h;clear h z;go_enter func24,ntmps24;go_wp2_with fail
 refine bY.o.mono ?_;rintro f l ⟨L,dX⟩;have B:=aa (w.o.trans (L.mono w.o.size));clear L;have N:=B.o.size;rcases dX with⟨m,hm,k,rfl⟩|⟨o,P,Q,R,fr,rfl⟩
 ·have cT:=aa k;clear k;rcases hm with rfl|rfl|rfl
  all_goals go_wp2
  all_goals go_ret2
  all_goals exact(show _/\_ from⟨B.o.alloc N _,.inl ⟨_,cT.o,rfl⟩⟩)
 have C:=aa (And.intro P (And.intro Q R));clear fr P Q R;have D:=aa (B.o.alloc N (.cells #[A g,A i,.string j,A 0,A 0] 97));have S:=aa (bI l (.cells #[A g,A i,.string j,A 0,A 0] 97));go_wp2_with fail
 go_region_held3 (fun W=>W.cell? (V l 0)=some (A g)/\W.cell? (V l 1)=some (A i)/\W.cell? (V l 2)=some (.string j)/\W.cell? (V l 3)=some (A 0)/\W.cell? (V l 4)=some (A 0)) (first |exact gb S.o|exact gb ek.o|exact gb U.o)
  (first
   |(go_at_call 48;refine(gL.o _ D.o.drew).mono ?_;rintro f w2 ⟨rfl,E⟩;have U:=aa (bj S.o (Hq.o (mx E)));have t:=aa (D.o.drew.trans (E.mono D.o.size));clear E)
   |(go_at_call 49;refine(dT.o w2 t.o).mono ?_;rintro f w3 ⟨u,X,rfl,k,v,p,F⟩;obtain⟨kE,kF,rfl,_,_,_⟩:=bm p;have ek:=aa (bj U.o F);have bB:=aa (t.o.trans (F.mono t.o.size));have Jm:=aa (And.intro k (And.intro v p));clear p F k v))
 all_goals(
  go_wp2;go_ret2
  obtain⟨k,v,p⟩:=Jm.o;refine(show _/\_ from⟨bB.o,.inr ⟨o,.slice kE X.length kF,X,C.o.1,C.o.2.1,C.o.2.2,rfl,k,v,?_⟩⟩);rw[ap2]at p;exact gT p t.o.size)
end
end Go.Proofs.YtnkpogjiiohapaaGreatDoor
