/- Our own text. -/
import Derived.Conc.EventLaws
import Derived.ArgAppend
import Derived.Test.YtnkpogjiiohapaaGreatDoorA27
import Derived.Test.YtnkpogjiiohapaaGreatDoorA24
import Derived.Test.YtnkpogjiiohapaaGreatDoorA25
import Derived.Test.YtnkpogjiiohapaaGreatDoorA16
set_option linter.unusedSimpArgs false
set_option linter.unusedVariables false
set_option maxRecDepth 1000000
set_option maxHeartbeats 1000000
namespace Go.Proofs.YtnkpogjiiohapaaGreatDoor
section
open Go.RowKit Tryz
attribute [local go_sem ↓] Go.wp_at_zero Go.wp_at_succ
variable {a h j:Nat}{b i:Nat->Prop}{d:World}{e:bO}{f:dc}
def vu (N:Nat) (a b:Int):Prop:=∃c d:Nat,c<N/\d<N/\c≠d/\a=c/\b=d
theorem Rm(k:gb d a b i h j e f)(c g:Int)(n:¬vu h c g):O 51 #[Z a,A c,A g] d fun l p=>l=.returned (.tuple #[.pointer none,A 9])/\p=d:=by
 have q:=(bh k.blk).2;obtain⟨r,s,o⟩:=k.lmap;have m:=yy PT o underlying117 (show(zeroValue 110).run prog d=.ok (.pointer none) d by kernel_rfl) (c,g) true;rw[k.Bu c g n]at m;have t:(Instr.lookup 117 (.map (some f.jT)) (.agg #[A c,A g]) true).run prog d=.ok (.tuple #[.pointer none,.bool false]) d:=m;clear k n m o;go_enter func51,ntmps51;go_wp2;go_ret2
 exact⟨rfl,rfl⟩
theorem aiV(k:gb d a b i h j e f)(c g:Int)(m:¬vu h c g):O 74 #[Z a,A c,A g] d fun l n=>l=.returned (.tuple #[.pointer none,A 9])/\n=d:=by
 have p:=aa (Rm k c g m);clear k m;go_enter func74,ntmps74;go_wp2_with fail
 refine p.o.mono ?_;rintro l q ⟨rfl,rfl⟩;go_wp2;go_ret2
 exact⟨rfl,rfl⟩
theorem aiW(k:gb d a b i h j e f)(c g:Int)(m:¬vu h c g):O 27 #[Z a,A c,A g] d fun l n=>l=.returned (A 9)/\n=d:=by
 have p:=aa (Rm k c g m);clear k m;go_enter func27,ntmps27;go_wp2_with fail
 refine p.o.mono ?_;rintro l q ⟨rfl,rfl⟩;go_wp2;go_ret
 exact⟨rfl,rfl⟩
theorem aiX(k:gb d a b i h j e f)(c g:Int)(m:¬vu h c g):O 39 #[Z a,A c,A g] d fun l n=>l=.returned (A 9)/\n=d:=by
 have p:=aa (aiV k c g m);clear k m;go_enter func39,ntmps39;go_wp2_with fail
 refine p.o.mono ?_;rintro l q ⟨rfl,rfl⟩;go_wp2;go_ret
 exact⟨rfl,rfl⟩
theorem aiY(k:gb d a b i h j e f)(c g:Int)(m:¬vu h c g):O 115 #[Z a,A c,A g] d fun l n=>l=.returned (.tuple #[A 0,A 9])/\n=d:=by
 have p:=aa (Rm k c g m);clear k m;go_enter func115,ntmps115;go_wp2_with fail
 refine p.o.mono ?_;rintro l q ⟨rfl,rfl⟩;go_wp2;go_ret2
 exact⟨rfl,rfl⟩
theorem aiZ{r p}(c:gb d r b i j p e f)(k:a<j)(l:h<j)(m:a≠h):O 115 #[Z r,A a,A h] d fun g q=>g=.returned (.tuple #[A (e.ms a h).length,A 0])/\q=d:=by
 have s:=aa (QN c k l m);have n:=aa (XO (c.link a h k l m));rw[<-(c.wz a h k l m).len]at n;clear c;go_enter func115,ntmps115;go_wp2_with fail
 refine s.o.mono ?_;rintro g t ⟨rfl,rfl⟩;go_wp2_with fail
 refine n.o.mono ?_;rintro g u ⟨rfl,rfl⟩;go_wp2;go_ret2
 exact⟨rfl,rfl⟩
end
section
variable {a b i:Nat}{e:Nat->List av}{f:bO}{h:List av}{j:Nat->Nat}
theorem ai0{a b:List PId}(c:(h.map dX).Sublist (a++b))(i:(a++b).Nodup):∃x y,h=x++y/\(x.map dX).Sublist a/\(y.map dX).Sublist b/\uh h a=x.length:=by
 obtain⟨m,n,e,f,g⟩:=List.sublist_append_iff.1 c;obtain⟨x,y,rfl,rfl,rfl⟩:=List.map_eq_append_iff.1 e;refine⟨x,y,rfl,f,g,?_⟩;unfold uh;have j:∀o∈x,(fun o=>decide (dX o∈a)) o=true:=fun o d=>decide_eq_true (f.subset (aqO d))
 have k:∀o∈y,¬dX o∈a:=fun o d l=>(aps.1 i).2.2 _ l _ (g.subset (aqO d)) rfl
 rw[List.takeWhile_append_of_pos j];cases y with
 |nil=>simp
 |cons o y=>rw[List.takeWhile_cons,if_neg (by simp[k o ao6])];simp
theorem Zk{b:List av}{a:List PId}(h:(b.map dX).Sublist a)(n:a.Nodup):∀k:Nat,(∃y,b.drop (lj b a (List.range k)).1=y/\(y.map dX).Sublist (a.drop (8*k))/\∀o∈b,dX o∈a.drop (8*k)->o∈y)/\∀j (g:j<(lj b a (List.range k)).2.length),∀o,o∈(b.drop (lj b a (List.range k)).2[j].1).take (lj b a (List.range k)).2[j].2↔(o∈b/\dX o∈partOf a j)
 |0=>⟨⟨b,rfl,by simpa using h,fun o c _=>c⟩,fun j g=>by simp[lj]at g⟩
 |k+1=>by
  obtain⟨⟨y,e,p,r⟩,g⟩:=Zk h n k;have i:a.drop (8*k)=partOf a k++a.drop (8*(k+1)):=by
   unfold partOf;rw[show 8*(k+1)=8*k+8 by omega,<-List.drop_drop,aqk]
  have s:(partOf a k++a.drop (8*(k+1))).Nodup:=by rw[<-i];exact n.sublist (List.drop_sublist _ _)
  rw[i]at p;obtain⟨x,z,d,l,m,w⟩:=ai0 p s;have B:=LI b a (List.range k);have C:∀o∈y,o∈b:=fun o c=>by rw[<-e]at c;exact ap0 c
  have t:∀q,q∈partOf a k->¬q∈a.drop (8*(k+1)):=fun q l m=>(aps.1 s).2.2 q l q m rfl
  rw[apz,Xz,e,w];refine⟨⟨z,?_,m,fun o c f=> ?_⟩,fun j D o=> ?_⟩
  ·show b.drop (_+x.length)=z
   rw[<-List.drop_drop,e,d,List.drop_left]
  ·have :=r o c (by rw[i];exact aqA _ f)
   rw[d]at this;rcases aoZ.1 this with h|h
   ·exact absurd f (t _ (l.subset (aqO h)))
   ·exact h
  ·simp only[aoW,apd,apv]at D
   by_cases u:j<(lj b a (List.range k)).2.length
   ·simp only[aqn u]
    exact g j u o
   ·have v:j=(lj b a (List.range k)).2.length:=by omega
    have E:j=k:=by rw[v,B,ap4]
    subst v;simp only[List.getElem_concat_length];rw[e,d,List.take_left,E];refine⟨fun c=>⟨C o (by rw[d];exact apR _ c),l.subset (aqO c)⟩,fun⟨c,f⟩=> ?_⟩;have :=r o c (by rw[i];exact apR _ f);rw[d]at this;rcases aoZ.1 this with h|h
    ·exact h
    ·exact absurd (m.subset (aqO h)) (t _ f)
theorem Rn{f:Int}{k:PId}:k∈ra a f b↔k.1=(a:Int)/\f<k.2/\k.2<=f+b:=by
 unfold ra;simp only[aoX,apQ];constructor
 ·rintro⟨j,d,rfl⟩
  exact⟨rfl,by omega,by omega⟩
 ·rintro⟨c,e,g⟩
  exact⟨(k.2-f-1).toNat,by omega,by rw[<-c];exact Prod.ext rfl (by simp;omega)⟩
theorem Ro{e f:Nat->Int}{k:PId}:∀{n:Nat},k∈kg e f n↔∃c:Nat,c<n/\k.1=(c:Int)/\e c<k.2/\k.2<=f c:=by
 intro n;unfold kg;simp only[api,apQ,Rn];constructor
 ·rintro⟨c,a,b,d,g⟩
  exact⟨c,a,b,d,by omega⟩
 ·rintro⟨c,a,b,d,g⟩
  exact⟨c,a,b,d,by omega⟩
def DT (l:List PId):Prop:=l.Pairwise fun a b=>eK a b=true
theorem Zm(c:Nat)(f:Int):∀n,DT (ra c f n)
 |0=>by simp[DT,ra]
 |n+1=>by
  rw[Xu];refine ap9.2 ⟨Zm c f n,aqZ _ _,fun a d b e=> ?_⟩;obtain rfl:=ao2.1 e;obtain⟨g,h,i⟩:=Rn.1 d;rw[q3]
  right
  exact⟨g,by show a.2<f+1+(n:Int);omega⟩
theorem Rp(d e:Nat->Int):∀n,DT (kg d e n)
 |0=>by simp[DT,kg]
 |n+1=>by
  rw[LD];refine ap9.2 ⟨Rp d e n,Zm _ _ _,fun a f b g=> ?_⟩;obtain⟨c,h,i,_⟩:=Ro.1 f;obtain⟨j,_⟩:=Rn.1 g;rw[q3]
  left
  omega
theorem ai1{l}(h:DT l):l.Nodup:=h.imp fun{a b} h e=>by
 subst e;rw[uc]at h;cases h
theorem Rq:∀{l m:List PId},DT l->DT m->(∀x∈l,x∈m)->l.Sublist m
 |[],m,_,_,_=>List.nil_sublist _
 |a::l,[],_,_,h=>absurd (h a ao6) (by simp)
 |a::l,b::m,g,k,h=>by
  obtain⟨i,n⟩:=apP.1 g;obtain⟨o,j⟩:=apP.1 k;by_cases e:a=b
  ·subst e
   refine(Rq n j fun x f=> ?_).cons_cons a;rcases ao3.1 (h x (apa _ f)) with c|c
   ·have :=i x f
    rw[c,uc]at this;cases this
   ·exact c
  ·refine(Rq g j fun x f=> ?_).cons b
   rcases ao3.1 (h x f) with c|c
   ·subst c
    exfalso;have p:a∈m:=by
     rcases ao3.1 (h a ao6) with d|d
     ·exact absurd d e
     ·exact d
    rcases ao3.1 f with d|d
    ·exact e d.symm
    ·have :=A7 (i x d) (o a p)
     rw[uc]at this;cases this
   ·exact c
structure cq where
 P:Nat->List bu
 has:Nat->Nat->Nat
 wait:Nat->List (Nat×Nat)
 lost:Nat->Nat->Nat
 known:Nat->Nat->Nat->Nat
 ms:Nat->Nat->List jN
 sh:Nat->Nat->Bool
variable {d:cq}
def yp (a:Nat->Nat):iH->jN->Prop
 |.inl l,m=>m.q=true/\l=m.heard.map fun(n:Nat)=>(n:Int)
 |.inr b,m=>m.q=false/\∀i n:Nat,a i<n->((i,n)∈m.refs↔∃x∈b,dX x=((i:Int),(n:Int)))
structure Rel (N:Nat) (M:Nat->List av) (s:bO) (S:cq):Prop where
 made:∀c,c<N->(M c).map (fun o=>eU o.op)=S.P c
 has:∀c,c<N->∀i,i<N->s.has c i=(S.has c i:Int)
 gt:∀c,c<N->s.gt c=bZ ((s.ops c).map fun o=>eU o.op)
 wait:∀c,c<N->∀i n:Nat,i<N->S.has c i<n->((i,n)∈S.wait c↔(bq ((i:Int),(n:Int)) (s.early c)).isSome=true)
 ms:∀c d,c<N->d<N->c≠d->en (yp (S.has d)) (s.ms c d) (S.ms c d)
 sh:∀c d,c<N->d<N->c≠d->s.sh c d=S.sh c d
 lI:∀c d,c<N->d<N->c≠d->∀i,i<N->s.lI c d i=(S.known c d i:Int)
 wJ:∀c d i,c<N->d<N->i<N->S.lost c i<=S.has d i
theorem yp.more{has:Nat->Nat}(h:∀i,has i<=j i):∀{a:iH} {b:jN},yp has a b->yp j a b
 |.inl _,_,k=>k
 |.inr _,_,k=>⟨k.1,fun i n c=>k.2 i n (arA (h i) c)⟩
theorem en.Zn {α β:Type} {R:α->β->Prop}:∀{l:List α} {m:List β},l.length=m.length->(∀i (c:i<l.length) (d:i<m.length),R l[i] m[i])->en R l m
 |[],[],_,_=>trivial
 |[],_::_,h,_=>by simp at h
 |_::_,[],h,_=>by simp at h
 |a::l,b::m,h,k=>⟨k 0 (by simp) (by simp),en.Zn (by simpa using h) fun i c d=>k (i+1) (by simpa using c) (by simpa using d)⟩
def mA (a:Bool):List jN->List jN->List jN
 |l,[]=>l
 |l,m::b=>mA a (if a=true\/12<=l.length then l else l++[m]) b
theorem Ml{R:iH->jN->Prop}(d:Bool):∀{bs:List iH} {us:List jN} {a:List iH} {f:List jN},a.length<=12->en R a f->en R bs us->en R (vp d a bs) (mA d f us)
 |[],[],_,_,_,h,_=>by unfold vp;split <;>exact h
 |[],_::_,_,_,_,_,c=>c.elim
 |_::_,[],_,_,_,_,c=>c.elim
 |b::bs,u::us,a,f,g,h,c=>by
  have j:=h.len;cases d with
  |true=>
   have ih:=Ml true (bs:=bs) (us:=us) g h c.2;unfold vp at ih⊢;rw[if_pos rfl]at ih⊢;unfold mA;rw[if_pos (.inl rfl)];exact ih
  |false=>
   unfold mA;have e:vp false a (b::bs)=vp false (if a.length=12 then a else a++[b]) bs:=rfl;rw[e];by_cases i:a.length=12
   ·rw[if_pos i,if_pos (.inr (by omega))]
    exact Ml false g h c.2
   ·rw[if_neg i,if_neg (by simp;omega)]
    exact Ml false (by simp;omega) (en.snoc c.1 h) c.2
def gJ (S:cq) (c d:Nat) (l:List jN):cq:={S with ms:=upd S.ms c (upd (S.ms c) d l)}
theorem Rel.kX{N M s S l g}(h:Rel N M s S){c d:Nat}(n:c<N)(o:d<N)(p:c≠d)(m:en (yp (S.has d)) l g):Rel N M (kX s c d l) (gJ S c d g):=by
 refine⟨h.made,h.has,h.gt,h.wait,fun a b i j k=> ?_,h.sh,h.lI,h.wJ⟩;unfold Go.Proofs.YtnkpogjiiohapaaGreatDoor.kX gJ;simp only;by_cases e:a=c
 ·subst e
  by_cases f:b=d
  ·subst f
   rw[bN,bN,bN,bN];exact m
  ·rw[bN,ck _ _ f,bN,ck _ _ f]
   exact h.ms a b i j k
 ·rw[ck _ _ e,ck _ _ e]
  exact h.ms a b i j k
def DU (N:Nat) (S:cq) (c d:Nat):cq:=if S.sh c d=true\/12<=(S.ms c d).length then S else gJ S c d (S.ms c d++[⟨true,(List.range N).map (S.has c),[]⟩])
theorem Rel.ask(h:Rel i e f d)(j:a<i)(l:b<i)(m:a≠b)(s:(f.ms a b).length<=12):Rel i e (DK i f a b) (DU i d a b):=by
 have o:=h.ms a b j l m;have t:=o.len;have p:=h.sh a b j l m;unfold DK DU;by_cases k:f.sh a b=true\/(f.ms a b).length=12
 ·rw[if_pos k,if_pos (k.imp (fun c=>by rw[<-p];exact c) (fun c=>by omega))]
  exact h
 ·rw[if_neg k,if_neg (fun q=>k (q.imp (fun c=>by rw[p];exact c) (fun c=>by omega)))]
  refine h.kX j l m (en.snoc (show yp (d.has b) (.inl _) _ from⟨rfl,?_⟩) o);show kG i (f.has a)=((List.range i).map (d.has a)).map fun(n:Nat)=>(n:Int)
  unfold kG;rw[apI];exact aqq fun g r=>h.has a j g (apQ.1 r)
def Mm (S:cq) (c d:Nat):cq:=match S.ms c d with
 |[]=>S
 |m::l=>if S.sh c d=true then S else gJ S c d (l++[m])
theorem Rel.later(h:Rel i e f d)(g:a<i)(j:b<i)(k:a≠b):Rel i e (LR f a b) (Mm d a b):=by
 have c:=h.ms a b g j k;have n:=h.sh a b g j k;unfold LR Mm
 match o:f.ms a b,p:d.ms a b,c with
 |[],[],_=>exact h
 |m::l,q::r,c=>
  simp only[n];split
  ·exact h
  ·exact h.kX g j k (en.snoc c.1 c.2)
theorem IA{N M}(i:jj N M){has:Nat->Int}(k:PId)(o:nP):∀(xs:List av) (m:List (PId×av)),r4 N M m->(∀x∈xs,mV N M x)->
  ((bq k (iF has m xs)).map (·.op)=some o↔(∃x∈xs,dX x=k/\has x.op.id.2.toNat<x.op.nth/\x.op=o)\/(bq k m).map (·.op)=some o)
 |[],m,_,_=>by
  show((bq k m).map (·.op)=some o↔_);simp
 |x::xs,m,j,n=>by
  have p:=n x ao6;have q:=fun y a=>n y (apa _ a)
  have e:iF has m (x::xs)=iF has (if has x.op.id.2.toNat<x.op.nth then cv (dX x) x m else m) xs:=rfl;rw[e];by_cases c:has x.op.id.2.toNat<x.op.nth
  ·rw[if_pos c]
   have r:r4 N M (cv (dX x) x m):=by
    have :=r4.all (has:=has) (xs:=[x]) j (fun y a=>by obtain rfl:=ao2.1 a;exact p);have s:iF has m [x]=cv (dX x) x m:=by
     show(if has x.op.id.2.toNat<x.op.nth then cv (dX x) x m else m)=_;rw[if_pos c]
    rw[s]at this;exact this
   rw[IA i k o xs _ r q,h6];constructor
   ·rintro(⟨y,a,h⟩|h)
    ·exact .inl ⟨y,apa _ a,h⟩
    ·by_cases b:k=dX x
     ·rw[if_pos b]at h
      exact .inl ⟨x,ao6,b.symm,c,by simpa using h⟩
     ·rw[if_neg b]at h
      exact .inr h
   ·rintro(⟨y,a,d,f,g⟩|h)
    ·rcases ao3.1 a with rfl|a
     ·right
      rw[if_pos d.symm];simp[g]
     ·exact .inl ⟨y,a,d,f,g⟩
    ·right
     by_cases b:k=dX x
     ·rw[if_pos b]
      cases l:bq k m with
      |none=>rw[l]at h;cases h
      |some y=>
       rw[l]at h;obtain⟨t,u⟩:=j _ (fQ l);have :y=x:=i.X5 t p (by rw[<-u];exact b);rw[<-this];exact h
     ·rw[if_neg b]
      exact h
  ·rw[if_neg c,IA i k o xs m j q]
   constructor
   ·rintro(⟨y,a,h⟩|h)
    ·exact .inl ⟨y,apa _ a,h⟩
    ·exact .inr h
   ·rintro(⟨y,a,d,f,g⟩|h)
    ·rcases ao3.1 a with rfl|a
     ·exact absurd f c
     ·exact .inl ⟨y,a,d,f,g⟩
    ·exact .inr h
theorem Zp:∀(a:List av) (g:Int),nw g a=g\/∃x∈a,nw g a=x.op.id.1
 |[],g=>.inl rfl
 |y::a,g=>by
  have e:nw g (y::a)=nw (max g y.op.id.1) a:=rfl;rw[e];rcases Zp a (max g y.op.id.1) with h|⟨x,b,h⟩
  ·rw[h]
   by_cases c:g<=y.op.id.1
   ·exact .inr ⟨y,ao6,by omega⟩
   ·exact .inl (by omega)
  ·exact .inr ⟨x,apa _ b,h⟩
theorem ai2{a:List av}:bZ ((ja h a).map fun o=>eU o.op)=nw (bZ (h.map fun o=>eU o.op)) a:=by
 obtain⟨n,f,i⟩:=GU ((ja h a).map fun o=>eU o.op);obtain⟨q,j,k⟩:=GU (h.map fun o=>eU o.op);obtain⟨r,l⟩:=LU a (bZ (h.map fun o=>eU o.op));have c:∀y,y∈ja h a↔y∈a\/y∈h:=fun y=>by rw[(A8 a h).mem_iff,aoZ]
 refine Int.le_antisymm ?_ ?_
 ·rcases i with e|⟨p,d,e⟩
  ·omega
  ·obtain⟨y,b,rfl⟩:=aoX.1 d
   rw[<-e,pO];rcases(c y).1 b with b|b
   ·exact l y b
   ·have :=j _ (aoX.2 ⟨y,b,rfl⟩)
    rw[pO]at this;omega
 ·rcases Zp a (bZ (h.map fun o=>eU o.op)) with e|⟨x,m,e⟩
  ·rw[e]
   rcases k with g|⟨p,d,g⟩
   ·omega
   ·obtain⟨y,b,rfl⟩:=aoX.1 d
    rw[<-g];exact f _ (aoX.2 ⟨y,(c y).2 (.inr b),rfl⟩)
  ·rw[e]
   have :=f _ (aoX.2 ⟨x,(c x).2 (.inl m),rfl⟩);rw[pO]at this;exact this
def F6 (b:Nat->Nat) (a:List (Nat×Nat)) (f:Nat×Nat):List (Nat×Nat):=if b f.1<f.2/\f∉a then a++[f] else a
def mB (a:Nat->Nat) (b l:List (Nat×Nat)):List (Nat×Nat):=l.foldl (F6 a) b
theorem Zq{b:Nat->Nat}{f:Nat×Nat}:∀{l a:List (Nat×Nat)},f∈mB b a l↔f∈a\/(f∈l/\b f.1<f.2)
 |[],a=>by simp[mB]
 |g::l,a=>by
  have e:mB b a (g::l)=mB b (F6 b a g) l:=rfl;rw[e,Zq (l:=l)];unfold F6;split
  ·rename_i d
   rw[aoZ,ao2,ao3];constructor
   ·rintro((h|rfl)|h)
    ·exact .inl h
    ·exact .inr ⟨.inl rfl,d.1⟩
    ·exact .inr ⟨.inr h.1,h.2⟩
   ·rintro(h|⟨rfl|h,c⟩)
    ·exact .inl (.inl h)
    ·exact .inl (.inr rfl)
    ·exact .inr ⟨h,c⟩
  ·rename_i d
   rw[ao3];constructor
   ·rintro(h|h)
    ·exact .inl h
    ·exact .inr ⟨.inr h.1,h.2⟩
   ·rintro(h|⟨rfl|h,c⟩)
    ·exact .inl h
    ·by_cases i:f∈a
     ·exact .inl i
     ·exact absurd ⟨c,i⟩ d
    ·exact .inr ⟨h,c⟩
def runN (a:List (Nat×Nat)) (d:Nat):Nat->Nat->Nat
 |n,0=>n
 |n,f+1=>if(d,n+1)∈a then runN a d (n+1) f else n
theorem Zr(a:List (Nat×Nat))(d:Nat):∀(f n:Nat),n<=runN a d n f
 |0,n=>aoP _
 |f+1,n=>by
  unfold runN;split
  ·exact aoS (apn _) (Zr a d f (n+1))
  ·exact aoP _
theorem Zs{c:List (Nat×Nat)}{m:List (PId×av)}{d b:Nat}(h:∀n,b<n->((d,n)∈c↔(bq ((d:Int),(n:Int)) m).isSome=true)):∀(f n:Nat),b<=n->((runN c d n f:Nat):Int)=(n:Int)+((hO m (d:Int) (n:Int) f).length:Int)
 |0,n,_=>by simp[runN,hO]
 |f+1,n,j=>by
  have a:=h (n+1) (by omega);have e:((n+1:Nat):Int)=(n:Int)+1:=by omega
  rw[e]at a;unfold runN hO;cases g:bq ((d:Int),(n:Int)+1) m with
  |none=>
   rw[g]at a;rw[if_neg (fun i=>by have :=a.1 i;simp at this)];simp
  |some o=>
   rw[g]at a;rw[if_pos (a.2 rfl),Zs h f (n+1) (by omega),e];simp only[apd];omega
def vv (S:cq) (c:Nat) (l:List (Nat×Nat)):cq:={S with has:=upd S.has c fun d=>runN (mB (S.has c) (S.wait c) l) d (S.has c d) 61,wait:=upd S.wait c ((mB (S.has c) (S.wait c) l).filter fun f=>decide (runN (mB (S.has c) (S.wait c) l) f.1 (S.has c f.1) 61<f.2))}
theorem Rel.hear{m k}(g:Rel b e f d)(ok:hP b e f)(w:a<b)(C:∀x∈h,mV b e x)(N:yp (d.has a) (.inr h) m)(W:vh (nW f a h) (qm (nW f a h) (f.has a) b) k):Rel b e (r5 b f a h k) (vv d a m.refs):=by
 have E:=(ok.copy a w).FR;have P:∀i,i<b->∀n,d.has a i<n->((i,n)∈mB (d.has a) (d.wait a) m.refs↔(bq ((i:Int),(n:Int)) (nW f a h)).isSome=true):=fun i r n s=>by
  have y:f.has a i<(n:Int):=by rw[g.has a w i r];omega
  have X:(bq ((i:Int),(n:Int)) (nW f a h)).isSome=true↔∃o,(bq ((i:Int),(n:Int)) (nW f a h)).map (·.op)=some o:=by
   cases bq ((i:Int),(n:Int)) (nW f a h)<;>simp
  have Y:(bq ((i:Int),(n:Int)) (f.early a)).isSome=true↔∃o,(bq ((i:Int),(n:Int)) (f.early a)).map (·.op)=some o:=by
   cases bq ((i:Int),(n:Int)) (f.early a)<;>simp
  rw[Zq,X,g.wait a w i n r s,Y];constructor
  ·rintro(⟨o,z⟩|⟨aI,_⟩)
   ·exact⟨o,(IA ok.made _ o h _ E C).2 (.inr z)⟩
   ·obtain⟨x,F,u⟩:=(N.2 i n s).1 aI
    refine⟨x.op,(IA ok.made _ _ h _ E C).2 (.inl ⟨x,F,u,?_,rfl⟩)⟩;unfold dX at u;have Q:x.op.id.2=(i:Int):=congrArg Prod.fst u;have R:x.op.nth=(n:Int):=congrArg Prod.snd u;rw[Q,R,aqN];exact y
  ·rintro⟨o,z⟩
   rcases(IA ok.made _ o h _ E C).1 z with⟨x,F,u,_,_⟩|z
   ·exact .inr ⟨(N.2 i n s).2 ⟨x,F,u⟩,s⟩
   ·exact .inl ⟨o,z⟩
 have ek:=ok.wait w C;have aom:hasAll (f.has a) (mW b f a h)=rb (nW f a h) (f.has a) b:=Ii ek.1 b (aoP _);have S:∀i,i<b->rb (nW f a h) (f.has a) b i=((runN (mB (d.has a) (d.wait a) m.refs) i (d.has a i) 61:Nat):Int):=fun i r=>by
  unfold rb;rw[if_pos r,Zs (P i r) 61 (d.has a i) (aoP _),g.has a w i r]
 have I:∀i,d.has a i<=runN (mB (d.has a) (d.wait a) m.refs) i (d.has a i) 61:=fun i=>Zr _ _ _ _
 refine⟨g.made,fun c v i r=> ?_,fun c v=> ?_,fun c v i n r s=> ?_,fun p l L y c1=> ?_,g.sh,g.lI,fun p l i L y r=> ?_⟩
 ·unfold r5 l4 vv
  simp only;by_cases t:c=a
  ·subst t
   rw[bN,bN,aom];exact S i r
  ·rw[ck _ _ t,ck _ _ t]
   exact g.has c v i r
 ·unfold r5 l4
  simp only;by_cases t:c=a
  ·subst t
   rw[bN,bN,g.gt c v];exact ai2.symm
  ·rw[ck _ _ t,ck _ _ t]
   exact g.gt c v
 ·unfold vv at s⊢
  unfold r5 l4;simp only at s⊢;by_cases t:c=a
  ·subst t
   rw[bN]at s;rw[bN,bN,apA];have ff:((i:Int),(n:Int))∉qm (nW f c h) (f.has c) b:=fun D=>by
    unfold qm at D;obtain⟨j,ar,D⟩:=api.1 D;obtain⟨q,ao,k⟩:=aoX.1 D;have Q:(j:Int)=(i:Int):=congrArg Prod.fst k;have R:f.has c j+1+(q:Int)=(n:Int):=congrArg Prod.snd k;obtain rfl:j=i:=by omega
    have U:=S j r;unfold rb at U;rw[if_pos r]at U;have h2:=apQ.1 ao;omega
   rw[W.look _ ff,P i r n (arA (I i) s)];constructor
   ·exact fun M=>M.1
   ·exact fun M=>⟨M,decide_eq_true s⟩
  ·rw[ck _ _ t]at s
   rw[ck _ _ t,ck _ _ t];exact g.wait c v i n r s
 ·have :=g.ms p l L y c1
  unfold r5 l4 vv;simp only;by_cases B:l=a
  ·subst B
   rw[bN];exact en.imp (fun _ _=>yp.more I) this
  ·rw[ck _ _ B]
   exact this
 ·have :=g.wJ p l i L y r
  unfold vv;simp only;by_cases B:l=a
  ·subst B
   rw[bN];exact aoS this (I i)
  ·rw[ck _ _ B]
   exact this
def lK (heard has:Nat->Nat) (n:Nat):List (Nat×Nat):=(List.range n).flatMap fun d=>(List.range (has d-heard d)).map fun j=>(d,heard d+1+j)
def Mn (f:Nat×Nat):PId:=((f.1:Int),(f.2:Int))
theorem Zt{a b:Nat->Nat}{c d:Nat->Int}{N:Nat}(e:∀i,i<N->c i=(a i:Int))(f:∀i,i<N->d i=(b i:Int)):∀n,n<=N->kg c d n=(lK a b n).map Mn
 |0,_=>rfl
 |n+1,g=>by
  have ih:=Zt e f n (by omega);rw[LD,ih];unfold lK;rw[apz,apt,ao8];congr 1;simp only[ape,aq8,apu];unfold ra;rw[apI,e n (by omega),f n (by omega)];rw[show((b n:Int)-(a n:Int)).toNat=b n-a n by omega];exact aqq fun j _=>by
   unfold Mn;exact Prod.ext rfl (by simp)
def qz (N:Nat) (heard a b:Nat->Nat):List jN:=(List.range (min (chunks (lK heard a N).length) 3)).map fun j=>⟨false,[],(((lK heard a N).drop (8*j)).take 8).filter fun f=>decide (b f.1<f.2)⟩
theorem ai4{c d:Nat->Nat}(e:b<(qz a j c d).length):(qz a j c d)[b]=⟨false,[],(((lK j c a).drop (8*b)).take 8).filter fun f=>decide (d f.1<f.2)⟩:=by
 have h:b<min (chunks (lK j c a).length) 3:=by
  have :=e;unfold qz at this;rw[aoU,ap4]at this;exact this
 have g:(qz a j c d)[b]?=some ⟨false,[],(((lK j c a).drop (8*b)).take 8).filter fun f=>decide (d f.1<f.2)⟩:=by
  unfold qz;rw[ap7,arB h];rfl
 rw[apH e]at g;exact apE g
theorem Rel.ai5(o:Rel b e f d)(ok:hP b e f)(w:i<b)(q:a<b){l:List Int}(S:∀c,c<b->rowOf l c=(j c:Int))(y:h.Perm ((f.kept a).filter (r2 (rowOf l))))(U:x8 h):
  en (yp (d.has i)) ((FI h (rowOf l) (f.has a) b).map (H4 h)) (qz b j (d.has a) (d.lost a)):=by
 have I:kg (rowOf l) (f.has a) b=(lK j (d.has a) b).map Mn:=Zt S (fun c W=>o.has a q c W) b (aoP _);have X:(h.map dX).Sublist (kg (rowOf l) (f.has a) b):=by
  refine Rq (apB.2 U) (Rp _ _ _) fun k z=> ?_
  obtain⟨x,B,rfl⟩:=aoX.1 z;obtain⟨C,v⟩:=apA.1 (y.mem_iff.1 B);have t:x∈f.ops a:=by rw[ok.mU a q];exact aqA _ C
  obtain⟨g,r,Y⟩:=FT.1 ((ok.copy a q).perm.mem_iff.1 t);obtain⟨m,ar,L⟩:=apl.1 Y;rw[ao7]at ar;rw[aqo]at L;obtain⟨s,u,g3⟩:=ok.made.id g r m (by omega);rw[L]at s u;have M:rowOf l x.op.id.2.toNat<x.op.nth:=of_decide_eq_true v;refine Ro.2 ⟨g,r,s,?_,?_⟩
  ·rw[s]at M
   exact M
  ·show x.op.nth<=f.has a g
   rw[u];omega
 have ho:=Zk X (ai1 (Rp _ _ _)) (min (chunks (kg (rowOf l) (f.has a) b).length) 3);have hlen:(kg (rowOf l) (f.has a) b).length=(lK j (d.has a) b).length:=by rw[I,aoU]
 refine en.Zn ?_ fun m N h2=> ?_
 ·unfold FI qz
  rw[aoU,aoU,LI,hlen]
 ·rw[aoU]at N
  rw[apy];rw[ai4 h2];have P:=ho.2 m N;refine⟨rfl,fun c n hn=> ?_⟩;show(c,n)∈(((lK j (d.has a) b).drop (8*m)).take 8).filter _↔_;have HZ:partOf (kg (rowOf l) (f.has a) b) m=(((lK j (d.has a) b).drop (8*m)).take 8).map Mn:=by
   unfold partOf;rw[I,<-List.map_drop,<-aqm]
  have ai6:((c:Int),(n:Int))∈partOf (kg (rowOf l) (f.has a) b) m↔(c,n)∈((lK j (d.has a) b).drop (8*m)).take 8:=by
   rw[HZ,aoX];constructor
   ·rintro⟨p,D,g⟩
    have E:(p.1:Int)=(c:Int):=congrArg Prod.fst g;have Q:(p.2:Int)=(n:Int):=congrArg Prod.snd g;have :p=(c,n):=Prod.ext (by simp;omega) (by simp;omega);rw[<-this];exact D
   ·exact fun D=>⟨(c,n),D,rfl⟩
  rw[apA,<-ai6];constructor
  ·rintro⟨F,_⟩
   have hJ:((c:Int),(n:Int))∈kg (rowOf l) (f.has a) b:=by
    unfold partOf at F;exact ap0 (apx F)
   obtain⟨g,r,E,Q,cY⟩:=Ro.1 hJ;have BJ:(c:Int)=(g:Int):=E;obtain rfl:c=g:=by omega
   have BK:rowOf l c<(n:Int):=Q;have e3':(n:Int)<=f.has a c:=cY;have bA:=(ok.copy a q).kG c r;have rD:n-1<(e c).length:=by omega
   obtain⟨s,u,g3⟩:=ok.made.id c r (n-1) rD;have t:(e c)[n-1]∈f.ops a:=by
    refine(ok.copy a q).perm.mem_iff.2 (FT.2 ⟨c,r,?_⟩);refine apl.2 ⟨n-1,by rw[ao7];omega,by rw[aqo]⟩
   have R:dX (e c)[n-1]=((c:Int),(n:Int)):=Prod.ext s (by show(e c)[n-1].op.nth=(n:Int);rw[u];omega);refine⟨(e c)[n-1],(P _).2 ⟨y.mem_iff.2 (apA.2 ⟨?_,?_⟩),by rw[R];exact F⟩,R⟩
   ·rw[ok.mU a q]at t
    rcases aoZ.1 t with ah|z
    ·exfalso
     have :=ok.FW a q _ ah i w;rw[s,aqN,u,o.has i w c r]at this;omega
    ·exact z
   ·refine decide_eq_true ?_
    rw[s,aqN,u];omega
  ·rintro⟨x,B,g⟩
   obtain⟨C,v⟩:=(P x).1 B;rw[g]at v;refine⟨v,decide_eq_true ?_⟩;have Zu:c<b:=by
    obtain⟨It,_⟩:=apA.1 (y.mem_iff.1 C);have t:x∈f.ops a:=by rw[ok.mU a q];exact aqA _ It
    obtain⟨_,_,gR,Im⟩:=ok.made.nth ((ok.copy a q).made t);have E:x.op.id.2=(c:Int):=congrArg Prod.fst g;omega
   exact arA (o.wJ a i c q w Zu) hn
def wK (S:cq) (d c:Nat) (a:Nat->Nat):cq:={S with known:=upd S.known d (upd (S.known d) c fun i=>max (S.known d c i) (a i))}
def vw (N:Nat) (S:cq) (c d:Nat):cq:=match S.ms c d with
 |[]=>S
 |m::a=>if m.q=true then gJ (wK (gJ S c d a) d c fun i=>m.heard.getD i 0) d c (mA (S.sh d c) (S.ms d c) (qz N (fun i=>m.heard.getD i 0) (S.has d) (S.lost d))) else vv (gJ S c d a) d m.refs
theorem Rel.QT{I}(h:Rel i e f d)(ok:hP i e f)(p:a<i)(o:b<i)(q:a≠b)(N:(f.ms b a).length<=12)(r:Bx i f a b I):Rel i e I (vw i d a b):=by
 have s:=h.ms a b p o q;have x:=ok.msgs a b p o q;have q1:=ok.wC a b p o q;unfold Bx at r;unfold vw
 match k:f.ms a b,X:d.ms a b,s with
 |[],[],_=>
  rw[k]at r;subst r;exact h
 |.inl l::v,m::L,s=>
  rw[k]at r;obtain⟨Y,P,t,rfl⟩:=r;obtain⟨⟨w,y⟩,z⟩:=s;simp only[w,if_true];have M:∀c,c<i->rowOf l c=((m.heard.getD c 0:Nat):Int):=fun c u=>by
   rw[y];unfold rowOf;simp only[List.getD,ap7];cases m.heard[c]?<;>rfl
  have Q:=h.ai5 ok p o M P t;have n:=h.kX p o q z;have R:Rel i e (DM (Go.Proofs.YtnkpogjiiohapaaGreatDoor.kX f a b v) b a (rowOf l)) (wK (gJ d a b L) b a fun c=>m.heard.getD c 0):=by
   refine⟨n.made,n.has,n.gt,n.wait,n.ms,n.sh,fun g j t B C c u=> ?_,n.wJ⟩;unfold DM wK;simp only;by_cases D:g=b
   ·subst D
    by_cases E:j=a
    ·subst E
     rw[bN,bN,bN,bN,n.lI g j t B C c u,M c u];omega
    ·rw[bN,ck _ _ E,bN,ck _ _ E]
     exact n.lI g j t B C c u
   ·rw[ck _ _ D,ck _ _ D]
    exact n.lI g j t B C c u
  have S:(Go.Proofs.YtnkpogjiiohapaaGreatDoor.kX f a b v).ms b a=f.ms b a:=by
   unfold Go.Proofs.YtnkpogjiiohapaaGreatDoor.kX;simp only;rw[ck _ _ (ao5 q)]
  rw[S,h.sh b a o p (ao5 q)];exact R.kX o p (ao5 q) (Ml _ N (h.ms b a o p (ao5 q)) Q)
 |.inr xs::v,m::L,s=>
  rw[k]at r x q1;obtain⟨aoK,U,rfl⟩:=r;obtain⟨⟨w,y⟩,z⟩:=s;simp only[w,apG,if_false];have n:=h.kX p o q z;have W:hP i e (Go.Proofs.YtnkpogjiiohapaaGreatDoor.kX f a b v):=ok.ms (fun m F=>x m (apa _ F)) (fun m F=>q1 m (apa _ F));exact n.hear W o (x _ ao6) ⟨w,y⟩ U
def jB (S:cq) (c:Nat) (a:List bu):cq:={S with P:=upd S.P c (S.P c++a),has:=fun d i=>if d=c/\i=c then(S.P c++a).length else S.has d i}
theorem ai7(h:d.has a a=(d.P a).length):jB d a []=d:=by
 unfold jB;have c:upd d.P a (d.P a++[])=d.P:=by
  funext i;by_cases e:i=a
  ·subst e;rw[bN,apu]
  ·rw[ck _ _ e]
 have f:(fun b i=>if b=a/\i=a then(d.P a++[]).length else d.has b i)=d.has:=by
  funext b i;split
  ·rename_i e
   rw[e.1,e.2,apu,h]
  ·rfl
 rw[c,f]
theorem Rel.ai8(h:Rel b e f d)(q:a<b)(B:f.has a a=(e a).length)(p:kS)(t:TypeId)(v:Value):Rel b (nA e f a p t v) (fg f a p t v) (jB d a [eU (ke a (f.gt a) (f.has a) p t v).op]):=by
 have C:(d.P a).length=(e a).length:=by rw[<-h.made a q,aoU]
 have D:=h.has a q a q;have r:∀j i,d.has j i<=(if j=a/\i=a then(d.P a++[eU (ke a (f.gt a) (f.has a) p t v).op]).length else d.has j i):=fun j i=>by
  split
  ·rename_i c
   rw[c.1,c.2,aoW,ap1];omega
  ·exact aoP _
 refine⟨fun c m=> ?_,fun c m i o=> ?_,fun c m=> ?_,fun c m i n o x=> ?_,fun k g s u y=> ?_,h.sh,h.lI,fun k g i s u o=>aoS (h.wJ k g i s u o) (r g i)⟩
 ·unfold nA jB
  simp only;by_cases l:c=a
  ·subst l
   rw[nz,bN,ao8,h.made c m];rfl
  ·rw[rh _ _ l,ck _ _ l]
   exact h.made c m
 ·unfold fg l4 jB
  simp only;by_cases l:c=a
  ·subst l
   rw[bN];by_cases w:i=c
   ·subst w
    rw[bN,if_pos ⟨rfl,rfl⟩,aoW,ap1];omega
   ·rw[ck _ _ w,if_neg (fun h=>w h.2)]
    exact h.has c m i o
  ·rw[ck _ _ l,if_neg (fun h=>l h.1)]
   exact h.has c m i o
 ·by_cases l:c=a
  ·subst l
   rw[F5,F4,ao8,h.gt c m];refine(GV _ _ ?_).symm;rw[pO];rfl
  ·unfold fg l4
   simp only;rw[ck _ _ l,ck _ _ l];exact h.gt c m
 ·have z:d.has c i<n:=arA (r c i) x
  have :=h.wait c m i n o z;unfold fg l4 jB;simp only;by_cases l:c=a
  ·subst l
   rw[bN];exact this
  ·rw[ck _ _ l]
   exact this
 ·exact en.imp (fun _ _=>yp.more (r g)) (h.ms k g s u y)
theorem Rel.wrote{N c:Nat}(b:c<N):∀(a:List bu) {M f:Nat->List av} {s g:bO} {S:cq},Rel N M s S->s.has c c=(M c).length->nY c a M s f g->Rel N f g (jB S c a)
 |[],M,f,s,g,S,h,l,⟨j,k⟩=>by
  subst j k;have r:(S.P c).length=(f c).length:=by rw[<-h.made c b,aoU]
  rw[ai7 (by have :=h.has c b c b;omega)];exact h
 |p::a,M,f,s,g,S,h,l,⟨n,t,v,j,k⟩=>by
  have m:=h.ai8 b l n t v;rw[j]at m;have :=Rel.wrote b a m (by rw[aiC];unfold nA;rw[nz,aoW,ap1];omega) k;have e:jB (jB S c [p]) c a=jB S c (p::a):=by
   unfold jB;simp only[bN];have o:upd (upd S.P c (S.P c++[p])) c ((S.P c++[p])++a)=upd S.P c (S.P c++(p::a)):=by
    funext i;by_cases e:i=c
    ·subst e;rw[bN,bN,apf];rfl
    ·rw[ck _ _ e,ck _ _ e,ck _ _ e]
   have q:(fun d i=>if d=c/\i=c then((S.P c++[p])++a).length else if d=c/\i=c then(S.P c++[p]).length else S.has d i)=(fun d i=>if d=c/\i=c then(S.P c++(p::a)).length else S.has d i):=by
    funext d i;split
    ·rw[apf];rfl
    ·rfl
   rw[o,q]
  rw[e]at this;exact this
end
section
open Go.RowKit Tryz
variable {a b i r:Nat}{d:World}{e:List Value}{f:TypeId}{h n q:Value}{j:Nat->List bw}{k:Nat->Nat->Nat}{l:Nat->Nat->Value}{m:Nat->Value}
def fh:Value->Option Nat
 |.slice (some a) _ b=>if b=0 then none else some a.block
 |_=>none
theorem Mo(a:Addr)(n b:Nat):fh (.slice (some a) n b)=if b=0 then none else some a.block:=rfl
theorem Zw(b:Addr)(n:Nat)(h:0<a):fh (.slice (some b) n a)=some b.block:=by rw[Mo,if_neg (by omega)]
theorem Rr{c:Addr}{g:Nat}(h:fh (.slice (some c) a b)=some g):c.block=g:=by
 rw[Mo]at h;split at h
 ·cases h
 ·exact apE h
structure jP (w:World) (e:TypeId) (k:Nat) (v:Value) (n:Nat) (xs:List Value):Prop where
 len:xs.length=n*k
 at':(∃a,v=.slice a 0 0/\n=0)\/∃g off cap cur,v=.slice (some (K g off)) n cap/\0<cap/\n<=cap/\cap<=maxLen/\w.heap[g]?=some (.cells cur e (0,0))/\off+cap*k<=cur.size/\∀j u,xs[j]?=some u->cur[off+j]?=some u
theorem jP.nil(w:World)(e:TypeId)(k:Nat):jP w e k (.slice none 0 0) 0 []:=⟨by simp,.inl ⟨none,rfl,rfl⟩⟩
theorem jP.af{w e k v n a}{w':World}(h:jP w e k v n a)(d:∀g,fh v=some g->w'.heap[g]?=w.heap[g]?):jP w' e k v n a:=by
 refine⟨h.len,h.at'.imp id fun⟨g,off,cap,f,b,c,i,j,l,m⟩=>⟨g,off,cap,f,b,c,i,j,?_,m⟩⟩;rw[d g (by rw[b];exact Zw _ _ c)];exact l
theorem jP.lt{w k v n}(h:jP w f k v n e){g:Nat}(c:fh v=some g):∃b,w.heap[g]?=some (.cells b f (0,0)):=by
 rcases h.at' with⟨a,rfl,_⟩|⟨i,j,cap,b,rfl,l,_,_,d,_⟩
 ·cases a<;>simp[fh]at c
 ·obtain rfl:=Rr c
  exact⟨b,d⟩
theorem jP.own(t:0<a)(c:d.ownsRow i f a h b e):jP d f a h b e:=by
 refine⟨c.1,?_⟩;rcases c.2 with⟨rfl,m⟩|⟨g,l,n,rfl,_,o,p,q,v,r⟩
 ·exact .inl ⟨none,rfl,m⟩
 ·by_cases s:l=0
  ·subst s
   obtain rfl:b=0:=by omega
   exact .inl ⟨_,rfl,rfl⟩
  ·refine .inr ⟨g,0,l,n,rfl,by omega,p,q,o,by omega,fun j u k=> ?_⟩
   have :=r;rw[<-this]at k;rw[aql]at k;split at k
   ·rw[apF,<-Array.getElem?_toList]
    exact k
   ·cases k
theorem jP.cell{w}{a:Option Addr}(h:jP w f r (.slice a b i) b e)(q:0<b):∃g c,a=some (K g c)/\b<=i/\i<=maxLen/\∀j u,e[j]?=some u->w.cell? (K g (c+j))=some u:=by
 rcases h.at' with⟨s,d,t⟩|⟨g,c,v,x,d,y,k,l,m,z,n⟩
 ·omega
 ·injection d with d _ o
  subst d o;exact⟨g,c,rfl,k,l,fun j u p=>by simp only[World.cell?,m];exact n j u p⟩
theorem jP.tail{g:Nat}(h:jP d f a (.slice (some (K g i)) (r+1) b) (r+1) e)(k:Option Addr)(m:0<b-1->k=some (K g (i+a))):jP d f a (.slice k r (b-1)) r (e.drop a):=by
 refine⟨by rw[apm,h.len,apV];omega,?_⟩;rcases h.at' with⟨_,_,v⟩|⟨w,x,y,n,c,z,B,C,o,D,p⟩
 ·omega
 ·injection c with c _ q
  injection c with c;injection c with c s;subst c q s;by_cases t:b-1=0
  ·obtain rfl:r=0:=by omega
   exact .inl ⟨k,by rw[t],rfl⟩
  ·refine .inr ⟨g,i+a,b-1,n,by rw[m (by omega)],by omega,by omega,by omega,o,?_,fun j u l=> ?_⟩
   ·have f:b*a=(b-1)*a+a:=by
     rw[<-aqJ];congr 1;omega
    omega
   ·rw[List.getElem?_drop]at l
    have :=p (a+j) u l;rw[show i+a+j=i+(a+j) by omega];exact this
theorem aja{P:Program}(w:World)(t x e:TypeId)(i:TypeInfo)(z:Value)(size bytes:Nat)(F:P.underlying t=some (.slice e))(I:P.info? e=some i)(R:i.zero=some z)(L:i.size=size)(S:i.bytes=bytes)(U:z.cells.size=size)(M:0<size)(v:Value)(n:Nat)(o:List Value)(aI:jP w e size v n o)(a:Addr)(c:Nat)(b:List Value)(hl:b.length=size)(N:∀j u,b[j]?=some u->w.cell? (a.add j)=some u)(h1:∀u∈b,u.oneCell'=true)(W:n+1<=maxLen)(X:(n+1)*bytes<=140737488355328):
  ∃f d,(Builtin.append_ #[t,t] x #[v,.slice (some a) 1 c]).run P w=.ok f d/\jP d e size f (n+1) (o++b)/\aP (fun k=>fh v=some k) w d/\∀k,fh f=some k->fh v=some k\/w.heap.size<=k:=by
 have Y:b.length=1*size:=by omega
 have hlen:=aI.len;have grown:∀{f d:_},d.ownsRow w.heap.size e size f (n+1) (o++b)->w.grownBy d none->jP d e size f (n+1) (o++b)/\aP (fun k=>fh v=some k) w d/\∀k,fh f=some k->fh v=some k\/w.heap.size<=k:=fun{f d} q l=>by
  refine⟨jP.own M q,⟨l.os,l.tape,l.output,l.size,fun k m _=>l.block k m (by simp)⟩,fun k m=>.inr ?_⟩;rcases q.2 with⟨aj,_⟩|⟨g,r,y,aj,ab,_⟩
  ·rw[aj]at m;simp[fh]at m
  ·rw[aj]at m
   obtain rfl:=Rr m;exact ab
 rcases aI.at' with⟨a0,rfl,rfl⟩|⟨g,h,r,y,rfl,h2,ak,aL,Q,eR,fF⟩
 ·have al:o=[]:=aqg (by omega)
  subst al;cases a0 with
  |none=>
   obtain⟨f,d,s,q,l,_⟩:=run_append_own (P:=P) w w.heap.size t x e i z size bytes F I R L S U M (.slice none 0 0) 0 [] (ao9 _ _ _ _) a 1 c b Y N h1 W X (aoP _);obtain⟨B,C,D⟩:=grown q l;exact⟨f,d,s,B,C,D⟩
  |some a0=>
   obtain⟨f,d,s,q,l⟩:=run_append_arg_grows (P:=P) w t x e i z size bytes F I R L S U M a0 0 0 [] (by simp) (fun j u p=>by simp at p) a 1 c b Y N (by omega) W X;obtain⟨B,C,D⟩:=grown q l;exact⟨f,d,s,B,C,D⟩
 ·by_cases vG:n+1<=r
  ·subst L
   have nc:h+n*i.size+b.length<=y.size:=by
    have :(n+1)*i.size<=r*i.size:=apJ _ vG;rw[apV]at this;omega
   have s:=run_append_room_cells (P:=P) w t x e i F I g h n r a 1 c b (by omega) N h1 vG (fun j ar=>by
    have :h+n*i.size+j<y.size:=by omega
    simp[World.cell?,Q,this]) (fun j ar=>cS Q _)
   have E:=Wu (g:=g) b (h+n*i.size) w;have b3:fh (.slice (some (K g h)) n r)=some g:=Zw _ _ h2;refine⟨_,_,s,⟨by rw[aoW,hlen,hl,apV,Nat.one_mul],.inr ⟨g,h,r,A6 y (h+n*i.size) b,rfl,h2,vG,aL,Wt b _ w y Q,by rw[Ws];exact eR,fun j u p=> ?_⟩⟩,⟨E.os,E.tape,E.output,E.size,fun k m br=>E.other k m fun e=>br (by rw[b3,e])⟩,fun k m=>.inl ?_⟩
   ·by_cases ar:j<o.length
    ·rw[aqU ar]at p
     rw[PG,if_neg (by omega)];exact fF j u p
    ·rw[aqV (by omega)]at p
     have Am:j-o.length<b.length:=(aqv.1 p).1;rw[PG,if_pos (by omega),show h+j-(h+n*i.size)=j-o.length by omega];exact p
   ·rw[b3]
    obtain rfl:=Rr m;rfl
  ·obtain⟨f,d,s,q,l⟩:=run_append_arg_grows (P:=P) w t x e i z size bytes F I R L S U M (K g h) n r o (by omega) (fun j u p=>by
    have al:(((K g h):Addr).add j)=(K g (h+j)):=by unfold Addr.add;split <;>simp_all
    rw[al];simp only[World.cell?,Q];exact fF j u p) a 1 c b Y N (by omega) W X
   obtain⟨B,C,D⟩:=grown q l;exact⟨f,d,s,B,C,D⟩
theorem ajb(l:List Nat):∀u∈l.flatMap o7,u.oneCell'=true:=by
 intro u b;obtain⟨n,_,a⟩:=api.1 b;simp[o7]at a;subst a;rfl
theorem ajc {α:Type} {c:α->List Value} {e:Option Addr} {l:List α} (h:d.ownsRow r f i (.slice e a b) a (l.flatMap c)) (g:∀x,(c x).length=i) (j:a=l.length) (k:e=none->b=0):uw d c (.slice e a b) l:=by
 have :=Gx h g j a (aoP _) b (fun _=>k);rw[apc (by omega)]at this;exact this
theorem ajd{g:Array Oper}{rest:List Oper}{o:Oper}{a:Act}{Q:Exit->Act->World->Prop}(i:o.guard=none)(s x:Operand)(j:o.op=.call {callee:=.builtin .append,args:= #[s,x],argTypes:= #[24,24]})(B:Nat)(v:Value)(l b:List Nat)(k:a.eval s=v)(m:kJ B d v l)(f:Value)(n:a.eval x=f)(p:uw d o7 f b)(u:l.length+b.length<10000000)(q:B<=d.heap.size)(h:∀e c,kJ B c e (l++b)->d.grownBy c v.ownBlock->wpList prog g Q rest (a.put o.dst e) c):wpList prog g Q (o::rest) a d:=
 Gv o7 1 8 24 3 (A 0) (by kernel_rfl) underlying24 rfl (by omega) (fun _=>rfl)
  i s x j B v l b k m f n p (ajb b) (by omega) (by unfold maxLen;omega) q (fun e c r t=>h e c (by unfold kJ;simpa using r) t)
theorem Zx{w l}(b:kJ 0 w h l)(t:l.length<1000000):
  O 154 #[h] w fun e f=>∃u,e=.returned u/\kJ w.heap.size f u l/\J w f:=by
 obtain⟨a,c,rfl,v,x,m⟩:=bp b;have n:a=none->c=0:=fun e=>by
  subst e;rcases b.2 with⟨d,_⟩|⟨g,y,z,d,_⟩
  ·simp only[apo]at d;exact d.2.2
  ·simp at d
 have p:=aa (ajc b (fun _=>rfl) rfl n);clear b m;go_enter func154,ntmps154;go_wp2_with (at_builtin;go_must (refine ajd rfl (.tmp 4) (.tmp 5) rfl w.heap.size (.slice none 0 0) [] l rfl ?h1 (.slice a l.length c) rfl ?h2 ?ak ?aL ?_;(case h1=>exact ao9 _ _ _ _);(case h2=>exact p.o);(case ak=>simp;omega);(case aL=>exact aoP _);intro q B i j;have r:=aa i;have s:=aa j;clear i j))
 go_ret
 exact⟨q,rfl,by simpa using r.o,(aoQ _ _).grown s.o (aoP _) (fun k e=>by cases e)⟩
theorem e2.nums(c:e2 d i b h n q m j l k)(g:a<b):kJ 0 d (l a 0) ((List.range b).map (k a)):=by
 have :=c.hH a g;unfold kJ;rw[aoU,ap4];have e:((List.range b).map (k a)).flatMap o7=(List.range b).map fun f=>A (k a f):=by
  rw[List.flatMap_map];exact List.map_eq_flatMap.symm
 rw[e];exact this
theorem aje(f:e2 d b a h n q m j l k)(c:Int)(p:¬(0<=c/\c<a)):
  O 110 #[Z b,A c] d fun e r=>e=.returned (.tuple #[.slice none 0 0,A 2])/\r=d:=by
 have g:=aa (xo f c);have i:decide (0<=c/\c<(a:Int))=false:=by simpa using p
 rw[i]at g;clear f i;go_enter func110,ntmps110;go_wp2_with fail
 refine g.o.mono ?_;rintro e s ⟨rfl,rfl⟩;go_wp2;go_ret2
 exact⟨rfl,rfl⟩
theorem ajf(f:e2 d b a h n q m j l k)(c:Nat)(g:c<a):
  O 110 #[Z b,A c] d fun e i=>∃u,e=.returned (.tuple #[u,A 0])/\kJ d.heap.size i u ((List.range a).map (k c))/\J d i:=by
 have p:=aa (xo f c);have r:decide (0<=(c:Int)/\(c:Int)<(a:Int))=true:=by simp;omega
 rw[r]at p;have B:=f.hN;have s:=aa (Zx (f.nums g) (by simp;omega));have C:=f.bd;obtain⟨D,E,F,I,rfl,rfl,_,L,_,cells⟩:=f.row (by omega);have y:=cells c g;have M:(0:Int)<=(c:Int):=ao0 _;have N:(c:Int)<(a:Int):=by omega
 obtain⟨P,Q,t,_,_⟩:=f.Cp g;rw[t]at y s;clear f r cells t;go_enter func110,ntmps110;go_wp2_with fail
 refine p.o.mono ?_;rintro e z ⟨rfl,rfl⟩;go_wp2_with fail
 refine s.o.mono ?_;rintro e z ⟨u,rfl,v,w⟩;have x:=aa (And.intro v w);clear v w;go_wp2;go_ret2
 exact⟨u,rfl,x.o.1,x.o.2⟩
end
end Go.Proofs.YtnkpogjiiohapaaGreatDoor
