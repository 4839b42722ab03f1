/- Our own text. -/
import Derived.Deep.RegionLaw
import Derived.Test.YtnkpogjiiohapaaGreatDoorA01
set_option linter.unusedSimpArgs false
set_option linter.unusedVariables false
set_option maxRecDepth 1000000
set_option maxHeartbeats 1600000
namespace Go.Proofs.YtnkpogjiiohapaaGreatDoor
open Go.RowKit Tryz
variable {a e h n:Nat}{b m w:World}{d:List bD}{f:Value}{i:ByteArray}{j:Array Value}{k:List cE}{l:TypeId}{q:Int}{r:Act}{s:Array Oper}{u:Exit->Act->World->Prop}{v:Oper}
def Np (b:ByteArray) (a:List bD) (r:Int):Prop:=
 (r= -1/\∀j (c:j<a.length),hA b a[j].key=false)\/
 ∃i,∃d:i<a.length,r=(i:Int)/\hA b a[i].key=true/\∀j (c:j<a.length),hA b a[j].key=true->hA a[j].key a[i].key=false
def pW (b:ByteArray) (a:List bD) (k:Nat) (r:Int):Prop:=
 (r= -1/\∀j (c:j<a.length),j<k->hA b a[j].key=false)\/
 ∃i,∃d:i<a.length,i<k/\r=(i:Int)/\hA b a[i].key=true/\∀j (c:j<a.length),j<k->hA b a[j].key=true->hA a[j].key a[i].key=false
theorem pW.all(h:pW i d d.length q):Np i d q:=by
 rcases h with⟨c,e⟩|⟨a,f,_,c,e,g⟩
 ·exact .inl ⟨c,fun j b=>e j b b⟩
 ·exact .inr ⟨a,f,c,e,fun j b=>g j b b⟩
theorem Nq(l:List UInt8):Op.bytesLess l l=false:=by
 induction l with
 |nil=>rfl
 |cons a l ih=>simp[Op.bytesLess,ih,UInt8.lt_iff_toNat_lt]
theorem pW.no(p:a<d.length)(h:pW i d a q)(l:hA i d[a].key=false):pW i d (a+1) q:=by
 rcases h with⟨c,f⟩|⟨b,m,r,c,f,n⟩
 ·refine .inl ⟨c,fun j g o=> ?_⟩
  by_cases e:j=a
  ·subst e;exact l
  ·exact f j g (by omega)
 ·refine .inr ⟨b,m,by omega,c,f,fun j g o k=> ?_⟩
  by_cases e:j=a
  ·subst e;rw[l]at k;cases k
  ·exact n j g (by omega) k
theorem pW.first{a}{k:Nat}(c:k<d.length)(h:pW a d k (-1))(f:hA a d[k].key=true):pW a d (k+1) k:=by
 rcases h with⟨_,g⟩|⟨i,m,n,o,_⟩
 ·refine .inr ⟨k,c,by omega,rfl,f,fun j l p b=> ?_⟩
  by_cases e:j=k
  ·subst e;exact Nq _
  ·rw[g j l (by omega)]at b;cases b
 ·omega
theorem Nr:∀(a b c:List UInt8),Op.bytesLess a b=true->Op.bytesLess b c=true->Op.bytesLess a c=true
 |_,_,[],_,h=>by simp[Op.bytesLess]at h
 |[],_,_::_,_,_=>by simp[Op.bytesLess]
 |_::_,[],_::_,h,_=>by simp[Op.bytesLess]at h
 |x::a,y::b,z::c,e,d=>by
  simp[Op.bytesLess,UInt8.lt_iff_toNat_lt]at e d⊢;rcases e with e|⟨rfl,e⟩
  ·rcases d with d|⟨rfl,d⟩
   ·left;omega
   ·left;exact e
  ·rcases d with d|⟨rfl,d⟩
   ·left;exact d
   ·right;exact⟨rfl,Nr a b c e d⟩
theorem pW.better(f:a<d.length)(q:e<d.length)(h:pW i d a e)(g:hA i d[a].key=true)(k:hA d[a].key d[e].key=true):pW i d (a+1) a:=by
 rcases h with⟨l,_⟩|⟨b,r,s,l,t,m⟩
 ·omega
 ·have :e=b:=by omega
  subst this;refine .inr ⟨a,f,by omega,rfl,g,fun j n u o=> ?_⟩;by_cases c:j=a
  ·subst c;exact Nq _
  ·have :=m j n (by omega) o
   cases p:hA d[j].key d[a].key
   ·rfl
   ·have :=Nr _ _ _ p k
    unfold hA at *;simp_all
theorem pW.Ns(p:e<d.length)(f:a<d.length)(h:pW i d e a)(g:hA d[e].key d[a].key=false):pW i d (e+1) a:=by
 rcases h with⟨k,_⟩|⟨b,q,r,k,l,m⟩
 ·omega
 ·have :a=b:=by omega
  subst this;refine .inr ⟨a,f,by omega,rfl,l,fun j n s o=> ?_⟩;by_cases c:j=e
  ·subst c;exact g
  ·exact m j n (by omega) o
theorem pW.shape(h:pW i d a q):q= -1\/∃m:Nat,∃_:m<d.length,q=(m:Int):=by
 rcases h with⟨c,_⟩|⟨b,e,_,c,_⟩
 ·exact .inl c
 ·exact .inr ⟨b,e,c⟩
theorem abd{P:Program}{d:FuncId}{args:Array Value}(h:Calls P d args (b.drewN (a+e)) fun c g=>c=.returned f/\∃m,g=(b.drewN (a+e)).drewN m):Calls P d args (b.drewN (a+e)) fun c i=>c=.returned f/\∃m,i=b.drewN (a+m):=
 h.mono fun _ _ ⟨j,m,k⟩=>⟨j,e+m,by rw[k,World.drewN_drewN,Nat.add_assoc]⟩
theorem abe(B u x:Nat)(v:Value)(l:List bD)(c:ByteArray)(w:World)(ag:w.cell? (K u (x+3))=some v)(h:hy B w v l)(y:∀s∈l,s.key.size<=maxLen)(L:c.size<=maxLen):
  O 176 #[.pointer (some (K u x)),.string c] w fun e j=>
   ∃r,e=.returned (A r)/\Np c l r/\∃n,j=w.drewN n:=by
 obtain⟨a,cap,rfl,jk,M,z⟩:=bp h.1;unfold maxLen at M;have N:=aa (z);clear z;have C:=aa (h);clear h;have D:=aa (y);clear y;go_enter func176,ntmps176;go_wp2;go_loopw [5,6] (fun b i wr=>∃k:Nat,∃r:Int,k<=l.length/\i=A k/\b=A r/\pW c l k r/\∃n,wr=w.drewN n) (fun _ i _=>l.length-(intOf i).toNat)
 case atStart=>exact⟨0,-1,aoR _,rfl,rfl,.inl ⟨rfl,fun _ _ h=>absurd h (ap5 _)⟩,0,rfl⟩
 case round=>
  obtain⟨k,r,hk,rfl,rfl,d,n,rfl⟩:=hrel;by_cases f:k<l.length
  ·obtain⟨g,rfl⟩:=N.o k f
   obtain⟨h0,P,Q,R⟩:=hy.cells C.o rfl k f;have E:=D.o l[k] (aoY _);clear P Q R;have p:=fun W=>S4 c l[k].key W L E
   cases q:hA c l[k].key
   ·go_wp2_with (go_at_call 193;refine(p _).mono ?_;rintro e j ⟨rfl,F,rfl⟩)
    go_roundw
    case rel=>exact⟨k+1,r,by omega,by go_num,rfl,d.no f q,_,rfl⟩
    case measure=>simp[intOf];omega
   ·rcases d.shape with rfl|⟨m,t,rfl⟩
    ·go_wp2_with (go_at_call 193;refine(p _).mono ?_;rintro e j ⟨rfl,F,rfl⟩)
     go_roundw
     case rel=>exact⟨k+1,k,by omega,by go_num,rfl,d.first f q,_,rfl⟩
     case measure=>simp[intOf];omega
    ·obtain⟨m0,S,U,X⟩:=hy.cells C.o rfl m t
     have Y:=D.o l[m] (aoY _);clear S U X;have aK:=fun W=>S4 l[k].key l[m].key W E Y
     have Em:¬(m:Int)<0:=by omega
     go_wp2_with (go_at_call 193;refine(p _).mono ?_;rintro e j ⟨rfl,F,rfl⟩)
     go_quiet ((go_at_call 193;exact abd (aK _)))
     cases I:hA l[k].key l[m].key
     ·go_wp2
      go_roundw
      case rel=>exact⟨k+1,m,by omega,by go_num,rfl,d.Ns f t I,_,rfl⟩
      case measure=>simp[intOf];omega
     ·go_wp2
      go_roundw
      case rel=>exact⟨k+1,k,by omega,by go_num,rfl,d.better f t q I,_,rfl⟩
      case measure=>simp[intOf];omega
  ·go_wp2
   go_ret
   exact⟨r,rfl,(by have e:k=l.length:=(by omega);subst e;exact d.all),_,rfl⟩
def uw {α:Type} (w:World) (f:α->List Value) (x:Value) (l:List α):Prop:=
 (x=.slice none 0 0/\l=[])\/∃a c,x=.slice (some a) l.length c/\∀j u,(l.flatMap f)[j]?=some u->w.cell? (a.add j)=some u
theorem Gv {α:Type} (f:α->List Value) (size bytes:Nat) (t e:TypeId) (z:Value) (E:(prog.info? e).map (fun i=>(i.zero,i.size,i.bytes))=some (some z,size,bytes))
  (o:prog.underlying t=some (.slice e)) (F:z.cells.size=size) (I:0<size) (L:∀x,(f x).length=size)
  {rest:List Oper} (p:v.guard=none) (d x:Operand)
  (q:v.op=.call {callee:=.builtin .append,args:= #[d,x],argTypes:= #[t,t]}) (B:Nat) (a:Value) (l j:List α) (w:r.eval d=a)
  (n:b.ownsRow B e size a l.length (l.flatMap f)) (y:Value) (C:r.eval x=y) (M:uw b f y j) (N:∀g∈j.flatMap f,g.oneCell'=true)
  (Q:(l.length+j.length)*bytes<=140737488355328) (R:l.length+j.length<=maxLen) (S:B<=b.heap.size)
  (h:∀m k,k.ownsRow B e size m (l.length+j.length) ((l++j).flatMap f)->b.grownBy k a.ownBlock->wpList prog s u rest (r.put v.dst m) k):wpList prog s u (v::rest) r b:=by
 obtain⟨i,D,U,W,X⟩:=info_parts E;rcases M with⟨rfl,rfl⟩|⟨Y,c,rfl,hc⟩
 ·refine wpList_plain p fun _ cw=> ?_
  have aI:=run_append_owned_none (P:=prog) b B t v.type e i size o D a l.length _ n;unfold Oper.wp execOp;simp only[q,resolve,invoke,builtin,apk,apZ,apq,aqL,apb,apU,w,C,aI];exact cw _ _ (h a b (by simpa using n) (World.grownBy.refl b _))
 ·refine wpList_append_own (P:=prog) b p d x t q B e i z size bytes o D U W X F I a l.length (l.flatMap f) w n Y j.length c (j.flatMap f) C (qF f size L j) hc N R Q S ?_
  intro m k h2 ak _;exact h m k (by simpa using h2) ak
theorem JW(h:hy a b f d):∀u∈d.flatMap gZ,u.oneCell'=true:=by
 intro u g;obtain⟨s,i,g⟩:=api.1 g;obtain⟨e,c,j,_⟩:=bp (h.2 s i);simp[gZ]at g;rcases g with rfl|rfl|rfl|rfl
 ·rfl
 ·rfl
 ·rfl
 ·rw[j];rfl
def hC (key:ByteArray) (x:PId):bD:=⟨key,x,.slice none 0 0,[]⟩
def kn (B:Nat) (w:World) (v:Value) (l:List bD):Prop:=w.ownsRow B 269 4 v l.length (l.flatMap gZ)
theorem kn.alloc{B w v l}(h:kn B w v l)(o:Obj):kn B (w.alloc o) v l:=aqd h o
theorem En{rest:List Oper}(j:v.guard=none)(c x:Operand)(k:v.op=.call {callee:=.builtin .append,args:= #[c,x],argTypes:= #[270,270]})(B:Nat)(a:Value)(l e:List bD)(m:r.eval c=a)(n:kn B b a l)(i:Value)(o:r.eval x=i)(p:uw b gZ i e)(q:∀d∈e.flatMap gZ,d.oneCell'=true)(z:l.length+e.length<10000000)(t:B<=b.heap.size)(h:∀g f,kn B f g (l++e)->b.grownBy f a.ownBlock->wpList prog s u rest (r.put v.dst g) f):wpList prog s u (v::rest) r b:=
 Gv gZ 4 56 270 269 (.agg #[.string ⟨#[]⟩,A 0,A 0,.slice none 0 0]) (by kernel_rfl) underlying270 rfl (by omega) (fun _=>rfl)
  j c x k B a l e m n i o p q (by omega) (by unfold maxLen;omega) t (fun g f w y=>h g f (by unfold kn;simpa using w) y)
theorem Gx {α:Type} {f:α->List Value} {i:Option Addr} {d:List α} (k:b.ownsRow h l a (.slice i e n) e (d.flatMap f)) (q:∀x,(f x).length=a) (v:e=d.length)
  (m:Nat) (p:m<=e) (c:Nat) (w:m=0->i=none->c=0):uw b f (.slice i m c) (d.take m):=by
 subst v;rcases k.2 with⟨o,C⟩|⟨g,D,E,o,F,I,L,M,N,P⟩
 ·injection o with o y r
  subst o;have :m=0:=by omega
  subst this;exact .inl ⟨by rw[w rfl rfl],by simp⟩
 ·injection o with o y r
  subst o;subst r;refine .inr ⟨(H g),c,by rw[ao7,aqD p],fun j u s=> ?_⟩;have z:(((H g):Addr).add j)=(K g j):=by unfold Addr.add;split <;>simp_all
  rw[z];have t:j<m*a:=by
   have :=(aqv.1 s).1;rw[qF f a q,ao7,aqD p]at this;exact this
  have B:j<d.length*a:=aoV t (apJ _ p);rw[k.cellAt j B];have l:d.flatMap f=(d.take m).flatMap f++(d.drop m).flatMap f:=by rw[<-apt,aqk]
  rw[l,aqU (by rw[qF f a q,ao7,aqD p];exact t)];exact s
theorem S7 {α:Type} {f:α->List Value} {d:Option Addr} {c:List α} (i:b.ownsRow n l a (.slice d e h) e (c.flatMap f)) (r:∀x,(f x).length=a) (y:e=c.length)
  (k:Nat) (z:k<=e) (s:Option Addr) (m:s=if h=k then d else d.map (·.add (k*a))):uw b f (.slice s (e-k) (h-k)) (c.drop k):=by
 subst y;rcases i.2 with⟨o,t⟩|⟨g,F,I,o,L,M,N,P,Q,R⟩
 ·injection o with o B q
  subst o;subst q;have :k=0:=by omega
  subst this;simp at m;subst m;exact .inl ⟨by rw[t],by simpa using t⟩
 ·injection o with o B q
  subst o;subst q;by_cases v:h=k
  ·rw[if_pos v]at m
   subst m;have :c.drop k=[]:=ari (by omega);refine .inr ⟨(H g),_,by rw[apm],fun j u p=> ?_⟩;rw[this]at p;simp at p
  ·rw[if_neg v]at m
   simp at m;subst m;refine .inr ⟨_,_,by rw[apm],fun j u p=> ?_⟩;have C:((((H g):Addr).add (k*a)).add j)=(K g (k*a+j)):=by
    unfold Addr.add;split <;>split <;>simp_all
   rw[C];have D:j<(c.length-k)*a:=by
    have :=(aqv.1 p).1;rw[qF f a r,apm]at this;exact this
   have E:k*a+j<c.length*a:=by rw[Nat.sub_mul]at D;omega
   rw[i.cellAt _ E];have l:c.flatMap f=(c.take k).flatMap f++(c.drop k).flatMap f:=by rw[<-apt,aqk]
   have w:((c.take k).flatMap f).length=k*a:=by rw[qF f a r,ao7,aqD z]
   rw[l,aqV (by rw[w];omega),w];rw[Nat.add_sub_cancel_left];exact p
theorem Ak(a b c d:Int)(W:World):(binOp .neq 36 (.agg #[A a,A b]) (.agg #[A c,A d])).run prog W=.ok (.bool (!et a b c d)) W:=by
 go_simp;unfold et;by_cases e:a=c<;>by_cases f:b=d<;>simp[e,f]
structure na (B:Nat) (w w':World) (go b6:Nat) (cj:Array Value) (v:Value) (l':List bD):Prop where
 ex:∃v',hy B w' v' l'/\w'.heap[go]?=some (.cells (cj.setIfInBounds (b6+3) v') 272 (0,0))/\(v'.ownBlock=v.ownBlock\/∀k,v'.ownBlock=some k->w.heap.size<=k)
 os:w'.os=w.os
 tape:w'.tape=w.tape
 output:w'.output=w.output
 size:w.heap.size<=w'.heap.size
 other:∀k,k<w.heap.size->k≠go->some k≠v.ownBlock->w'.heap[k]?=w.heap[k]?
theorem Ta(h:j[a]?=some f):j.setIfInBounds a f=j:=by
 apply Array.ext_getElem?;intro b;rw[aqj];split
 ·rename_i e;subst e;split
  ·exact h.symm
  ·rename_i c;rw[Array.getElem?_eq_none (by omega)]
 ·rfl
theorem na.same{w:World}(i:w.heap[a]?=some (.cells j 272 (0,0)))(l:j[h+3]?=some f)(c:hy e w f d)(g:J w b):na e w b a h j f d:=
 ⟨⟨f,c.af g,by rw[Ta l,g.block a (ao1.1 i).1];exact i,.inl rfl⟩,g.os,g.tape,g.output,g.size,fun k m _ _=>g.block k m⟩
theorem na.stored{v'}(v:m.heap[a]?=some (.cells j 272 (0,0)))(l:J m b)(x:h<=m.heap.size)(p:kn m.heap.size b v' d)(y:∀s∈d,k1 b s.gr s.ad):
  na h m (b.setCell (K a (e+3)) v') a e j f d:=by
 have z:a<m.heap.size:=(ao1.1 v).1;have w:b.heap[a]?=some (.cells j 272 (0,0)):=by rw[l.block a z];exact v
 have q:∀k,k≠a->(b.setCell (K a (e+3)) v').heap[k]?=b.heap[k]?:=fun k n=>apj _ _ _ _ n
 refine⟨⟨v',⟨?_,?_⟩,?_,.inr fun k n=>(aoT p k n).1⟩,l.os,l.tape,l.output,by simpa[World.setCell]using l.size,fun k n o _=>by rw[q k o,l.block k n]⟩
 ·refine⟨p.1,?_⟩
  rcases p.2 with r|⟨g,t,u,rfl,o,i,rest⟩
  ·exact .inl r
  ·exact .inr ⟨g,t,u,rfl,aoS x o,by rw[q g (by omega)];exact i,rest⟩
 ·intro s B
  have :=y s B;refine⟨this.1,?_⟩;rcases this.2 with r|⟨g,t,u,c,o,i,rest⟩
  ·exact .inl r
  ·refine .inr ⟨g,t,u,c,o,?_,rest⟩
   have :g≠a:=by
    intro c;subst c;rw[w]at i;injection i with i;injection i with _ i _;exact absurd i (by decide)
   rw[q g this];exact i
 ·simp[World.setCell,aqw,w]
def rp (l:List bD) (n:Nat) (s:bD):List bD:=l.take n++s::l.drop n
theorem JX(l:List bD)(n:Nat)(s:bD):l.take n++[s]++l.drop n=rp l n s:=by simp[rp]
theorem Tb{c:List bD}(h:kn a b f d)(e:d=c):kn a b f c:=e▸h
def vD (l:List bD) (b x:PId):List bD:=
 if et b.1 b.2 0 0 then rp l 0 (hC ⟨#[]⟩ x)
 else if cK (hz ⟨#[]⟩ b) l<0 then l
 else rp l ((cK (hz ⟨#[]⟩ b) l).toNat+1) (hC ⟨#[]⟩ x)
theorem yz {α:Type} (p:α->Bool) (l:List α):cK p l<l.length:=by
 unfold cK;split
 ·rename_i i h;have :=(aqc.1 h).1;omega
 ·omega
theorem Cc {α:Type} (p:α->Bool) (l:List α): -1<=cK p l:=by
 unfold cK;split <;>omega
theorem Tc{c:Int}:uw (b.alloc (.cells #[.string ⟨#[]⟩,A q,A c,.slice none 0 0] 269)) gZ (.slice (some (V b 0)) 1 1) [hC ⟨#[]⟩ (q,c)]:=by
 refine .inr ⟨_,_,rfl,fun j u a=> ?_⟩;have d:(((V b 0):Addr).add j)=(V b j):=by unfold Addr.add;split <;>simp_all
 rw[d,arj _ _ _ _ rfl]
 match j with
 |0=>simpa[gZ,hC]using a
 |1=>simpa[gZ,hC]using a
 |2=>simpa[gZ,hC]using a
 |3=>simpa[gZ,hC]using a
 |j+4=>simp[gZ,hC]at a
theorem Td{x:PId}:∀u∈[hC i x].flatMap gZ,u.oneCell'=true:=by
 intro u a;simp[hC,gZ]at a;rcases a with rfl|rfl|rfl|rfl<;>rfl
theorem Nt(w:World):k1 w (.slice none 0 0) []:=ao9 _ _ _ _
theorem kn.below(h:kn a b f d)(c:Below a m b)(e:a<=b.heap.size)(g:b.grownBy w f.ownBlock):Below a m w:=
 c.grown g e fun k i=>(aoT h k i).1
theorem Te(h:∀u∈d.flatMap gZ,u.oneCell'=true)(n:Nat):∀u∈(d.take n).flatMap gZ,u.oneCell'=true:=fun u a=>by
 obtain⟨s,b,a⟩:=api.1 a;exact h u (api.2 ⟨s,apx b,a⟩)
theorem Tf(h:∀u∈d.flatMap gZ,u.oneCell'=true)(n:Nat):∀u∈(d.drop n).flatMap gZ,u.oneCell'=true:=fun u a=>by
 obtain⟨s,b,a⟩:=api.1 a;exact h u (api.2 ⟨s,ap0 b,a⟩)
theorem Nu{base:Nat}{size:Nat}{i:List Value}(d:b.ownsRow base l size (.slice none e a) h i):a=0:=by
 rcases d.2 with⟨f,_⟩|⟨g,c,j,f,_⟩
 ·injection f
 ·injection f with f;cases f
theorem hy.cell{w v l}(h:hy a w v l):kn a w v l:=h.1
theorem Tg{x:PId}(h:∀s∈d,k1 b s.gr s.ad)(e:J b m)(n a:Nat):∀s∈(d.take n++[hC ⟨#[]⟩ x])++d.drop a,k1 m s.gr s.ad:=by
 intro s c;rw[aoZ,aoZ]at c;rcases c with(c|c)|c
 ·exact(h s (apx c)).af e
 ·simp at c;subst c;exact Nt _
 ·exact(h s (ap0 c)).af e
theorem abf(B b c:Nat)(x:Array Value)(v:Value)(l:List bD)(d f:Int)(w:World)(m:w.heap[b]?=some (.cells x 272 (0,0)))(y:x[c+3]?=some v)(h:hy B w v l)(hl:l.length<1000000)(U:B<=w.heap.size):
  O 214 #[.pointer (some (K b c)),.agg #[A 0,A 0],.agg #[A d,A f]] w fun e W=>
   e=.returned (.tuple #[])/\na B w W b c x v (rp l 0 (hC ⟨#[]⟩ (d,f))):=by
 obtain⟨a,z,rfl,jk,X,Y⟩:=bp h.1;unfold maxLen at X;have i:w.cell? (K b (c+3))=some (.slice a l.length z):=by simp[World.cell?,m,y]
 have C:=aa (i);have lq:Hq (w.frozen? (K b (c+3))=false):=by simp[Hq,World.frozen?,m]
 have cP:b<w.heap.size:=ao4 w _ i;have E:w.heap.size<=w.heap.size:=aoP _;have g:=aa (h);clear h;have nC:=aa (m);clear m;have yA:=aa (y);clear y;clear Y;have br:=Ak;have h00:et 0 0 0 0=true:=rfl;go_enter func214,ntmps214;go_wp2_with (first
  |(at_builtin;refine En rfl (.tmp 19) (.tmp 25) rfl w.heap.size (.slice none 0 0) [] (l.take (0)) rfl ?h1 (.slice a (0) z) rfl ?h2 ?ak ?aL ?bW ?_;(case h1=>exact ao9 _ _ _ _);(case h2=>exact Gx (g.o.af (((aoQ w.heap.size w).alloc (aoP _) _).alloc (by simp) _)).1 (fun _=>rfl) rfl (0) (by omega) z (fun _ e=>by have :=g.o.1;rw[e]at this;exact Nu this));(case ak=>exact Te (JW g.o) _);(case aL=>simp <;>omega);(case bW=>exact(((aoQ w.heap.size w).alloc (aoP _) _).alloc (by simp) _).size);intro v1 D F n;have q:J w D:=(((aoQ w.heap.size w).alloc (aoP _) _).alloc (by simp) _).grown n (((aoQ w.heap.size w).alloc (aoP _) _).alloc (by simp) _).size (fun k hk=>by cases hk);have ux:D.cell? (H (w.heap.size+1))=some (A d):=n.cell (by simp[go_sem]) (by simp[Value.ownBlock]);have qG:D.cell? (K (w.heap.size+1) 1)=some (A f):=n.cell (by simp[go_sem]) (by simp[Value.ownBlock]);clear n;replace i:=af q C.o;replace E:=q.size;have I:=aa (F);clear F;have r:=aa (q);clear q)
  |(at_builtin;refine En rfl (.tmp 27) (.tmp 30) rfl w.heap.size _ (l.take (0)) [hC ⟨#[]⟩ (d,f)] rfl ?h1 _ rfl ?h2 ?ak ?aL ?bW ?_;(case h1=>exact I.o.alloc _);(case h2=>exact Tc);(case ak=>exact Td);(case aL=>simp <;>omega);(case bW=>have :=r.o.size;simp;omega);intro v2 w2 L M;have s:J w w2:=kn.below (I.o.alloc _) (r.o.alloc r.o.size _) (by have :=r.o.size;simp;omega) M;clear M;replace i:=af s C.o;replace E:=s.size;have N:=aa (L);clear L;have t:=aa (s);clear s)
  |(at_builtin;refine En rfl (.tmp 33) (.tmp 39) rfl w.heap.size _ (l.take (0)++[hC ⟨#[]⟩ (d,f)]) (l.drop (0)) rfl ?h1 _ rfl ?h2 ?ak ?aL ?bW ?_;(case h1=>exact N.o);(case h2=>exact S7 (g.o.af t.o).1 (fun _=>rfl) rfl (0) (by omega) _ (by split <;>simp[Addr.add]));(case ak=>exact Tf (JW g.o) _);(case aL=>simp <;>omega);(case bW=>exact t.o.size);intro v3 P j Q;replace j:=Tb j (JX _ _ _);obtain⟨a3,bV,R,_,_,_⟩:=bp j;generalize(rp l 0 (hC ⟨#[]⟩ (d,f))).length=nD at R;subst R;have u:J w P:=kn.below N.o t.o t.o.size Q;clear Q;replace i:=af u C.o;have hf3:P.frozen? (K b (c+3))=false:=(u.frozen (p:=(K b (c+3))) cP).trans lq.o;have lM:=aa (j);clear j;have S:=aa (u);clear u))
 go_end0
 exact⟨rfl,na.stored nC.o S.o U lM.o (by rw[<-JX];exact Tg g.o.2 S.o 0 0)⟩
theorem abg(B b c:Nat)(I:Array Value)(v:Value)(l:List bD)(j m d f:Int)(k:Nat)(w:World)(r:w.heap[b]?=some (.cells I 272 (0,0)))(L:I[c+3]?=some v)(h:hy B w v l)(hl:l.length<1000000)(hB:B<=w.heap.size)(sj:et j m 0 0=false)(P:cK (hz ⟨#[]⟩ (j,m)) l=(k:Int)):
  O 214 #[.pointer (some (K b c)),.agg #[A j,A m],.agg #[A d,A f]] w fun e w'=>
   e=.returned (.tuple #[])/\na B w w' b c I v (rp l (k+1) (hC ⟨#[]⟩ (d,f))):=by
 have eh:k<l.length:=by have :=yz (hz ⟨#[]⟩ (j,m)) l;omega
 obtain⟨a,s,rfl,jk,dh,fu⟩:=bp h.1;unfold maxLen at dh;have i:w.cell? (K b (c+3))=some (.slice a l.length s):=by simp[World.cell?,r,L]
 have n:=aa (i);have lq:Hq (w.frozen? (K b (c+3))=false):=by simp[Hq,World.frozen?,r]
 have cP:b<w.heap.size:=ao4 w _ i;have M:w.heap.size<=w.heap.size:=aoP _;have g:=aa (h);clear h;have nC:=aa (r);clear r;have yA:=aa (L);clear L;clear fu;have br:=Ak;go_enter func214,ntmps214;go_wp2_with (first
  |(go_at_call 172;refine(Ca B b c (.slice a l.length s) l ⟨#[]⟩ j m _ ?au ?ab).mono ?_;(case au=>exact af (((aoQ w.heap.size w).alloc (aoP _) _).alloc (by simp) _) n.o);(case ab=>exact g.o.af (((aoQ w.heap.size w).alloc (aoP _) _).alloc (by simp) _));rintro e w0 ⟨rfl,t⟩;have u:J w w0:=(((aoQ w.heap.size w).alloc (aoP _) _).alloc (by simp) _).trans (t.mono (by simp;omega));have bS:=aa (af (a:=(H (w.heap.size+1))) (v:=A d) t (by simp[go_sem]));have cz:=aa (af (a:=(K (w.heap.size+1) 1)) (v:=A f) t (by simp[go_sem]));clear t;replace i:=af u n.o;replace M:=u.size;have x:=aa (u);clear u)
  |(at_builtin;refine En rfl (.tmp 19) (.tmp 25) rfl w.heap.size (.slice none 0 0) [] (l.take (k+1)) rfl ?h1 (.slice a (k+1) s) rfl ?h2 ?ak ?aL ?bW ?_;(case h1=>exact ao9 _ _ _ _);(case h2=>exact Gx (g.o.af (x.o)).1 (fun _=>rfl) rfl (k+1) (by omega) s (fun _ e=>by have :=g.o.1;rw[e]at this;exact Nu this));(case ak=>exact Te (JW g.o) _);(case aL=>simp <;>omega);(case bW=>exact(x.o).size);intro v1 N Q y;have z:J w N:=(x.o).grown y (x.o).size (fun k P=>by cases P);have ux:N.cell? (H (w.heap.size+1))=some (A d):=y.cell bS.o (by simp[Value.ownBlock]);have qG:N.cell? (K (w.heap.size+1) 1)=some (A f):=y.cell cz.o (by simp[Value.ownBlock]);clear y;replace i:=af z n.o;replace M:=z.size;have R:=aa (Q);clear Q;have C:=aa (z);clear z)
  |(at_builtin;refine En rfl (.tmp 27) (.tmp 30) rfl w.heap.size _ (l.take (k+1)) [hC ⟨#[]⟩ (d,f)] rfl ?h1 _ rfl ?h2 ?ak ?aL ?bW ?_;(case h1=>exact R.o.alloc _);(case h2=>exact Tc);(case ak=>exact Td);(case aL=>simp <;>omega);(case bW=>have :=C.o.size;simp;omega);intro v2 w2 S U;have D:J w w2:=kn.below (R.o.alloc _) (C.o.alloc C.o.size _) (by have :=C.o.size;simp;omega) U;clear U;replace i:=af D n.o;replace M:=D.size;have W:=aa (S);clear S;have E:=aa (D);clear D)
  |(at_builtin;refine En rfl (.tmp 33) (.tmp 39) rfl w.heap.size _ (l.take (k+1)++[hC ⟨#[]⟩ (d,f)]) (l.drop (k+1)) rfl ?h1 _ rfl ?h2 ?ak ?aL ?bW ?_;(case h1=>exact W.o);(case h2=>exact S7 (g.o.af E.o).1 (fun _=>rfl) rfl (k+1) (by omega) _ (by first |rfl|(split <;>simp[Addr.add])|simp_all));(case ak=>exact Tf (JW g.o) _);(case aL=>simp <;>omega);(case bW=>exact E.o.size);intro v3 X q Y;replace q:=Tb q (JX _ _ _);obtain⟨a3,bV,jI,_,_,_⟩:=bp q;generalize(rp l (k+1) (hC ⟨#[]⟩ (d,f))).length=nD at jI;subst jI;have F:J w X:=kn.below W.o E.o E.o.size Y;clear Y;replace i:=af F n.o;have hf3:X.frozen? (K b (c+3))=false:=(F.frozen (p:=(K b (c+3))) cP).trans lq.o;have lM:=aa (q);clear q;have bK:=aa (F);clear F))
 all_goals go_end0
 all_goals exact⟨rfl,na.stored nC.o bK.o hB lM.o (by rw[<-JX];exact Tg g.o.2 bK.o (k+1) (k+1))⟩
theorem abh(B b c:Nat)(i:Array Value)(v:Value)(l:List bD)(d f r s:Int)(w:World)(g:w.heap[b]?=some (.cells i 272 (0,0)))(j:i[c+3]?=some v)(h:hy B w v l)(F:l.length<1000000)(I:et d f 0 0=false)(L:cK (hz ⟨#[]⟩ (d,f)) l= -1):
  O 214 #[.pointer (some (K b c)),.agg #[A d,A f],.agg #[A r,A s]] w fun e t=>
   e=.returned (.tuple #[])/\na B w t b c i v l:=by
 obtain⟨a,k,rfl,M,u,x⟩:=bp h.1;unfold maxLen at u;have m:w.cell? (K b (c+3))=some (.slice a l.length k):=by simp[World.cell?,g,j]
 have y:=aa (m);have N:Hq (w.frozen? (K b (c+3))=false):=by simp[Hq,World.frozen?,g]
 have P:b<w.heap.size:=ao4 w _ m;have Q:w.heap.size<=w.heap.size:=aoP _;have n:=aa (h);clear h;have z:=aa (g);clear g;have C:=aa (j);clear j;clear x;have R:=Ak;go_enter func214,ntmps214;go_wp2_with (go_at_call 172;refine(Ca B b c (.slice a l.length k) l ⟨#[]⟩ d f _ ?au ?ab).mono ?_;(case au=>exact af (((aoQ w.heap.size w).alloc (aoP _) _).alloc (by simp) _) y.o);(case ab=>exact n.o.af (((aoQ w.heap.size w).alloc (aoP _) _).alloc (by simp) _));rintro e D ⟨rfl,p⟩;have q:J w D:=(((aoQ w.heap.size w).alloc (aoP _) _).alloc (by simp) _).trans (p.mono (by simp;omega));clear p;have E:=aa (q);clear q)
 refine bodyPost_ret (results_none rfl _ _ _) rfl ?_;exact⟨rfl,na.same z.o C.o n.o E.o⟩
def sk (B:Nat) (w:World) (v:Value) (l:List cE):Prop:=w.ownsRow B 243 5 v l.length (l.flatMap pf)
theorem sk.alloc{B w v l}(h:sk B w v l)(o:Obj):sk B (w.alloc o) v l:=aqd h o
theorem sk.below(h:sk a b f k)(d:Below a m b)(e:a<=b.heap.size)(g:b.grownBy w f.ownBlock):Below a m w:=
 d.grown g e fun c i=>(aoT h c i).1
theorem sk.af{w v l}{w':World}(h:sk a w v l)(b:J w w'):sk a w' v l:=c5 h b
theorem abj{y:cE}:∀u∈pf y,u.oneCell'=true:=by
 intro u a;simp[pf]at a;rcases a with rfl|rfl|rfl|rfl|rfl<;>rfl
theorem Nv{y:cE}(d:b.cell? (H a)=some (A y.cD.1))(e:b.cell? (K a 1)=some (A y.cD.2))(f:b.cell? (K a 2)=some (A y.num))(g:b.cell? (K a 3)=some (A y.obj.1))(h:b.cell? (K a 4)=some (A y.obj.2)):
  ∀j u,(pf y)[j]?=some u->b.cell? (K a j)=some u:=by
 intro j u c
 match j with
 |0=>simp[pf]at c;rw[<-c];exact d
 |1=>simp[pf]at c;rw[<-c];exact e
 |2=>simp[pf]at c;rw[<-c];exact f
 |3=>simp[pf]at c;rw[<-c];exact g
 |4=>simp[pf]at c;rw[<-c];exact h
 |j+5=>simp[pf]at c
theorem Nw{rest:List Oper}(k:v.guard=none)(d x:Operand)(m:v.op=.call {callee:=.builtin .append,args:= #[d,x],argTypes:= #[227,227]})(B:Nat)(a:Value)(l:List cE)(n:r.eval d=a)(o:sk B b a l)(g c:Nat)(y:cE)(p:r.eval x=.slice (some (H g)) 1 c)(q:∀j e,(pf y)[j]?=some e->b.cell? (K g j)=some e)(C:l.length<1000000000)(t:B<=b.heap.size)(h:∀i f,sk B f i (l++[y])->b.grownBy f a.ownBlock->wpList prog s u rest (r.put v.dst i) f):wpList prog s u (v::rest) r b:=
 JO pf 5 40 227 243 (.agg #[A 0,A 0,A 0,A 0,A 0]) (by kernel_rfl) underlying227 rfl (by omega) (fun _=>rfl) k d x m B a l n o g c y p
  q abj (by omega) (by unfold maxLen;omega) t (fun i f w z=>h i f (by unfold sk;simpa using w) z)
def unnamed (a:List PId) (b:List cE):List cE:=b.filter fun h=> !decide (h.cD∈a)
theorem abk{b:List PId}(h:a<k.length)(c:decide (k[a].cD∈b)=false):unnamed b (k.take (a+1))=unnamed b (k.take a)++[k[a]]:=by
 unfold unnamed;rw[aph h,aqu,aq3];rw[c];rfl
theorem abl{b:List PId}(h:a<k.length)(c:decide (k[a].cD∈b)=true):unnamed b (k.take (a+1))=unnamed b (k.take a):=by
 unfold unnamed;rw[aph h,aqu,aq3];rw[c];simp
theorem abm(a:List PId)(b:List cE)(k:Nat):(unnamed a (b.take k)).length<=k:=
 aoS (apK _ _) (List.length_take_le _ _)
theorem abn{l:List bD}{k:Nat}(a:k<l.length)(b:Value)(c:List cE):
  (l.set k ⟨l[k].key,l[k].id,b,c⟩).flatMap gZ=(l.flatMap gZ).set (k*4+3) b:=by
 induction l generalizing k with
 |nil=>simp at a
 |cons s l ih=>
  cases k with
  |zero=>simp[gZ,ape]
  |succ k=>
   have :=ih (k:=k) (by simpa using a);simp only[aqM,ape,ark];rw[this];have e:(k+1)*4+3=(gZ s).length+(k*4+3):=by simp[gZ];omega
   rw[e,List.set_append_right _ _ (by omega)];congr 1;congr 1;omega
theorem Th(c:kn h b (.slice (some (H a)) e n) d)(g:e=d.length){k:Nat}(i:k<d.length)(f:Value)(j:List cE):
  kn h (b.setCell (K a (k*4+3)) f) (.slice (some (H a)) e n) (d.set k ⟨d[k].key,d[k].id,f,j⟩):=by
 subst g;have :=arl c (k*4+3) f;unfold kn;rw[abn i,aqx];exact this.1
theorem JY{base:Nat}{size:Nat}{i:List Value}(d:b.ownsRow base l size (.slice (some (H a)) e h) n i):∃g,b.heap[a]?=some (.cells g l (0,0)):=by
 rcases d.2 with⟨f,_⟩|⟨k,c,g,f,_,j,_⟩
 ·injection f with f;cases f
 ·injection f with f _ _;injection f with f;injection f with f;subst f;exact⟨g,j⟩
theorem JZ(h:k1 b f k)(g:b.heap[a]?=some (.cells j l (0,0)))(i:l≠243)(u:Value):k1 (b.setCell (K a e) u) f k:=by
 refine⟨h.1,?_⟩;rcases h.2 with m|⟨d,n,o,p,q,c,rest⟩
 ·exact .inl m
 ·refine .inr ⟨d,n,o,p,q,?_,rest⟩
  have :d≠a:=by
   intro r;subst r;rw[g]at c;injection c with c;injection c with _ c _;exact i c
  rw[apj _ _ _ _ this];exact c
theorem na.abo{B}{u p:Nat}(v:m.heap[a]?=some (.cells j 272 (0,0)))(y:j[u+3]?=some (.slice (some (H e)) n p))(g:hy B m (.slice (some (H e)) n p) d)(z:n=d.length)(o:J m b)(C:h<d.length)(D:k1 b f k):
  na B m (b.setCell (K e (h*4+3)) f) a u j (.slice (some (H e)) n p) (d.set h ⟨d[h].key,d[h].id,f,k⟩):=by
 have E:a<m.heap.size:=(ao1.1 v).1;have w:b.heap[a]?=some (.cells j 272 (0,0)):=by rw[o.block a E];exact v
 have q:=g.af o;obtain⟨L,l⟩:=JY q.1;have F:a≠e:=by
  intro c;subst c;rw[w]at l;injection l with l;injection l with _ l _;exact absurd l (by decide)
 have x:∀i,i≠e->(b.setCell (K e (h*4+3)) f).heap[i]?=b.heap[i]?:=fun i r=>apj _ _ _ _ r
 refine⟨⟨_,⟨Th q.1 z C f k,?_⟩,?_,.inl rfl⟩,o.os,o.tape,o.output,by simpa[World.setCell]using o.size,fun i r M I=> ?_⟩
 ·intro s t
  rcases List.mem_or_eq_of_mem_set t with t|rfl
  ·exact JZ (q.2 s t) l (by decide) f
  ·exact JZ D l (by decide) f
 ·rw[x a F,Ta y];exact w
 ·rw[x i (fun c=>I (by rw[c];rfl)),o.block i r]
def hb (old:List PId) (a:List cE) (kind:Int) (y:cE):List cE:=unnamed old a++(if kind=3 then[y] else[])
theorem abp(B z L:Nat)(cj:Array Value)(v:Value)(l:List bD)(k:Nat)(hk:k<l.length)(b:List cE)(S:l[k].ad=b)(Gz:b.length<1000000)(C D kind dQ dP aj aw eN eB n E F:Int)(aO:Bool)(key:ByteArray)(dq:Value)(d:List PId)(w:World)(c9:w.heap[z]?=some (.cells cj 272 (0,0)))(e8:cj[L+3]?=some v)(h:hy B w v l)(hB:B<=w.heap.size)(hold:er w dq d)(sl:cK (hz key (aj,aw)) l=(k:Int)):
  O 215 #[.pointer (some (K z L)),.agg #[A C,A D,A kind,.bool aO,A dQ,A dP,.string key,A aj,A aw,A eN,A eB,A n,A E,A F,dq]] w fun e w'=>
   e=.returned (.tuple #[])/\∃M,na B w w' z L cj v (l.set k ⟨l[k].key,l[k].id,M,hb d b kind ⟨(C,D),n,(E,F)⟩⟩):=by
 obtain⟨a,cap,rfl,jk,dh,fu⟩:=bp h.1;unfold maxLen at dh;obtain⟨g,rfl⟩:=fu k hk;obtain⟨jn,co,rfl,yB,hom,_⟩:=bp hold;obtain⟨bc,a6,bd,I⟩:=hy.cells h rfl k hk;have pY:=h.2 l[k] (aoY _);obtain⟨bX,bQ,aH,k2,rn,Nx⟩:=bp pY;unfold maxLen at rn;rw[aH,S]at I;rw[aH,S]at pY;rw[S]at k2 Nx;have N:w.cell? (K z (L+3))=some (.slice (some (H g)) l.length cap):=by simp[World.cell?,c9,e8]
 clear bc a6 bd fu;have ko:=aa N;have n9:=aa I;have aC:=aa h;clear h;have nC:=aa c9;clear c9;have yA:=aa e8;clear e8;have tE:=aa hold;clear hold;have Eo:=aa pY;clear pY;have dN:=aa aH;clear aH;have Ny:=aa Nx;clear Nx;have vE:=aa S;clear S;have cP:z<w.heap.size:=ao4 w _ N;have GA:g<w.heap.size:=ao4 w _ I;go_enter func215,ntmps215;go_wp2_with (go_at_call 172;go_must (refine(Ca B z L (.slice (some (H g)) l.length cap) l key aj aw _ ?au ?ab).mono ?_;(case au=>exact af ((aoQ w.heap.size w).alloc (aoP _) _) ko.o);(case ab=>exact aC.o.af ((aoQ w.heap.size w).alloc (aoP _) _));rintro e r ⟨rfl,q⟩;have f:J w r:=((aoQ w.heap.size w).alloc (aoP _) _).trans (q.mono (by simp));have sn:=aa (af (a:=(V w 0)) (v:=A C) q (by simp[go_sem]));have Cd:=aa (af (a:=(V w 1)) (v:=A D) q (by simp[go_sem]));have Ce:=aa (af (a:=(V w 2)) (v:=A kind) q (by simp[go_sem]));have Cf:=aa (af (a:=(V w 11)) (v:=A n) q (by simp[go_sem]));have Cg:=aa (af (a:=(V w 12)) (v:=A E) q (by simp[go_sem]));have Ch:=aa (af (a:=(V w 13)) (v:=A F) q (by simp[go_sem]));have Ep:=aa (af (a:=(V w 14)) (v:=.slice jn d.length co) q (by simp[go_sem]));clear q;replace N:=af f ko.o;replace I:=af f n9.o;have P:=aa (f);clear f))
 have hz0:=P.o.size;have uy:Hq (∀s M,J r s->k1 s M (hb d b kind ⟨(C,D),n,(E,F)⟩)->na B w (s.setCell (K g (k*4+3)) M) z L cj (.slice (some (H g)) l.length cap) (l.set k ⟨l[k].key,l[k].id,M,hb d b kind ⟨(C,D),n,(E,F)⟩⟩)):=
  fun s M ab ay=>na.abo nC.o yA.o aC.o rfl (P.o.trans (ab.mono hz0)) hk ay
 have Ti:Hq (∀s,J r s->s.frozen? (K g (k*4+3))=false):=fun s ab=>
  ((P.o.trans (ab.mono hz0)).frozen (p:=(K g (k*4+3))) GA).trans (aq4 aC.o.1 _)
 replace tE:=aa (tE.o.af P.o);replace Eo:=aa (Eo.o.af P.o);clear hz0;go_loopw [5,6] (fun u i wr=>∃j:Nat,j<=b.length/\i=A j/\sk r.heap.size wr u (unnamed d (b.take j))/\J r wr) (fun _ i _=>b.length-(intOf i).toNat)
 case atStart=>exact⟨0,aoR _,rfl,ao9 _ _ _ _,aoQ _ _⟩
 case round=>
  obtain⟨j,ar,rfl,t,c⟩:=hrel;have jo:=aa N;have Er:=aa I;replace N:=af c jo.o;replace I:=af c Er.o;have xf:=af c Ep.o;have pZ:w.heap.size<wr.heap.size:=ao4 wr _ xf;have hz1:=c.size;have hz0:=P.o.size;have uz:=abm d b j;by_cases aE:j<b.length
  ·obtain⟨Ci,xg⟩:=Ny.o j aE
   subst xg;obtain⟨d0,d1,d2,d3,d4⟩:=k1.cells Eo.o rfl j aE;replace d0:=af c d0;replace d1:=af c d1;replace d2:=af c d2;replace d3:=af c d3;replace d4:=af c d4;have amM:Ci<wr.heap.size:=ao4 wr _ d0;have x:=aa t;clear t;have y:=aa c;clear c;cases ao:decide (b[j].cD∈d)
   ·have U:=aa ao;clear ao
    go_wp2_with (first
     |(go_at_call 237;refine(S2 (.slice jn d.length co) d b[j].cD.1 b[j].cD.2 _ ?au).mono ?_;(case au=>exact(tE.o.af y.o).af ((aoQ wr.heap.size wr).alloc (aoP _) _));rintro e w2 ⟨W,m⟩;rw[show decide ((b[j].cD.1,b[j].cD.2)∈d)=false from U.o]at W;subst W;have x0:=af (a:=(V wr 0)) (v:=A b[j].cD.1) m (by simp[go_sem]);have x1:=af (a:=(V wr 1)) (v:=A b[j].cD.2) m (by simp[go_sem]);have x2:=af (a:=(V wr 2)) (v:=A b[j].num) m (by simp[go_sem]);have x3:=af (a:=(V wr 3)) (v:=A b[j].obj.1) m (by simp[go_sem]);have x4:=af (a:=(V wr 4)) (v:=A b[j].obj.2) m (by simp[go_sem]);have f:J wr w2:=((aoQ wr.heap.size wr).alloc (aoP _) _).trans (m.mono (by simp));clear m;have hz2:=f.size;have Q:=aa f;clear f)
     |(at_builtin;refine Nw rfl (.tmp 74) (.tmp 76) rfl r.heap.size _ (unnamed d (b.take j)) rfl ?h1 w2.heap.size 1 b[j] rfl ?h2 ?aL ?bW ?_;(case h1=>exact(x.o.af Q.o).alloc _);(case h2=>exact Nv (by simp[go_sem]) (by simp[go_sem]) (by simp[go_sem]) (by simp[go_sem]) (by simp[go_sem]));(case aL=>omega);(case bW=>simp;omega);intro v' w3 R X;have fi:=aa X;clear X;have e0:=aa R;clear R))
    go_roundw
    case rel=>exact⟨j+1,by omega,by go_num,by rw[abk aE U.o];exact e0.o,sk.below ((x.o.af Q.o).alloc _) ((y.o.trans (Q.o.mono hz1)).alloc (by omega) _) (by simp;omega) fi.o⟩
    case measure=>simp[intOf];omega
   ·have U:=aa ao;clear ao
    go_wp2_with (go_at_call 237;refine(S2 (.slice jn d.length co) d b[j].cD.1 b[j].cD.2 _ ?au).mono ?_;(case au=>exact(tE.o.af y.o).af ((aoQ wr.heap.size wr).alloc (aoP _) _));rintro e w2 ⟨W,m⟩;rw[show decide ((b[j].cD.1,b[j].cD.2)∈d)=true from U.o]at W;subst W;have f:J wr w2:=((aoQ wr.heap.size wr).alloc (aoP _) _).trans (m.mono (by simp));clear m;have Q:=aa f;clear f)
    go_roundw
    case rel=>exact⟨j+1,by omega,by go_num,by rw[abl aE U.o];exact x.o.af Q.o,y.o.trans (Q.o.mono hz1)⟩
    case measure=>simp[intOf];omega
  ·have eO:=af c sn.o
   have fL:=af c Cd.o;have kM:=af c Ce.o;have Es:=af c Cf.o;have Et:=af c Cg.o;have Eu:=af c Ch.o;rw[apc (by omega)]at t uz;have y:=aa c;clear c;by_cases hp:kind=3
   ·have x:=aa t;clear t
    subst hp;go_wp2_with (at_builtin;go_must (refine Nw rfl (.tmp 81) (.tmp 87) rfl r.heap.size _ (unnamed d b) rfl ?h1 wr.heap.size 1 ⟨(C,D),n,(E,F)⟩ rfl ?h2 ?aL ?bW ?_;(case h1=>exact x.o.alloc _);(case h2=>exact Nv (by simp[go_sem]) (by simp[go_sem]) (by simp[go_sem]) (by simp[go_sem]) (by simp[go_sem]));(case aL=>omega);(case bW=>simp;omega);intro v' w3 R X;have Y:J r w3:=sk.below (x.o.alloc _) (y.o.alloc hz1 _) (by simp;omega) X;clear X;obtain⟨a3,GB,jI,_,_,_⟩:=bp R;generalize(unnamed d b++[(⟨(C,D),n,(E,F)⟩:cE)]).length=nD at jI;subst jI;replace N:=af Y jo.o;replace I:=af Y Er.o;have lq:w3.frozen? (K g (k*4+3))=false:=Ti.o w3 Y;have bK:=aa Y;clear Y;have e0:=aa R;clear R))
    go_end0
    exact⟨rfl,_,uy.o _ _ bK.o (by have :=e0.o;unfold hb;rw[if_pos rfl];exact gC this (aoR _))⟩
   ·have lq:wr.frozen? (K g (k*4+3))=false:=Ti.o wr y.o
    obtain⟨a3,GB,jI,_,_,_⟩:=bp t;generalize(unnamed d b).length=nD at jI;subst jI;have x:=aa t;clear t;go_wp2;go_end0
    exact⟨rfl,_,uy.o _ _ y.o (by have :=x.o;unfold hb;rw[if_neg hp,apu];exact gC this (aoR _))⟩
end Go.Proofs.YtnkpogjiiohapaaGreatDoor
