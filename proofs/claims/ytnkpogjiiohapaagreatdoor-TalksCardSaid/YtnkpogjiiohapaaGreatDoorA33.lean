/- Our own text. -/
import Derived.Deep.CutBlock
import Derived.Deep.DeepCutAuto
import Derived.Test.YtnkpogjiiohapaaGreatDoorA32
import Derived.Test.YtnkpogjiiohapaaGreatDoorA28
import Derived.Test.YtnkpogjiiohapaaGreatDoorA29
set_option linter.unusedSimpArgs false
set_option linter.unusedVariables false
set_option maxRecDepth 1000000
set_option maxHeartbeats 3200000
namespace Go.Proofs.YtnkpogjiiohapaaGreatDoor
open Go.RowKit Tryz
variable {a b f:Nat}{d:cq}{e s:World}{h k l w:Value}{i:List Nat}{m r u:Nat->Prop}{q:fm}{v:List Value}
structure kh (N:Nat) (S:cq):Prop where
 wait:∀c,c<N->nZ N S.P (S.wait c)
 msg:∀c d,c<N->d<N->∀m∈S.ms c d,wS N S.P m
 len:∀c d,c<N->d<N->(S.ms c d).length<=12
 has:∀c i,c<N->i<N->S.has c i<=(S.P i).length
 qO:∀i,i<N->(S.P i).length<=60
theorem wS.mono{m}{P P':Nat->List bu}(h:∀i,i<a->(P i).length<=(P' i).length)(b:wS a P m):wS a P' m:=⟨b.1,fun f c=>⟨(b.2 f c).1,aoS (b.2 f c).2 (h _ (b.2 f c).1)⟩⟩
theorem nZ.mono{l}{P P':Nat->List bu}(h:∀i,i<a->(P i).length<=(P' i).length)(b:nZ a P l):nZ a P' l:=⟨b.1,fun f c=>⟨(b.2 f c).1,aoS (b.2 f c).2 (h _ (b.2 f c).1)⟩⟩
theorem kh.new(N:Nat):kh N ⟨fun _=>[],fun _ _=>0,fun _=>[],fun _ _=>0,fun _ _ _=>0,fun _ _=>[],fun _ _=>false⟩:=
 ⟨fun _ _=>⟨apT,fun f a=>(by cases a)⟩,fun _ _ _ _ m b=>(by cases b),fun _ _ _ _=>aoR _,fun _ _ _ _=>aoP _,fun _ _=>aoR _⟩
theorem kh.comes(h:kh b d)(m:a<b){l:List (Nat×Nat)}(o:∀f∈l,f.1<b/\f.2<=(d.P f.1).length):kh b (vv d a l):=by
 have j:=nZ.Mq (d.has a) (h.wait a m) o;refine⟨fun c g=> ?_,h.msg,h.len,fun c i g k=> ?_,h.qO⟩
 ·unfold vv
  simp only;by_cases e:c=a
  ·subst e
   rw[bN];exact⟨j.1.sublist List.filter_sublist,fun f p=>j.2 f (apA.1 p).1⟩
  ·rw[ck _ _ e]
   exact h.wait c g
 ·unfold vv
  simp only;by_cases e:c=a
  ·subst e
   rw[bN];exact ZL (fun n q=>(j.2 _ q).2) _ _ (h.has c i g k)
  ·rw[ck _ _ e]
   exact h.has c i g k
theorem kh.answers(h:kh a d)(n:b<a)(o p:Nat->Nat):∀m∈qz a o (d.has b) p,wS a d.P m:=by
 intro m g;unfold qz at g;obtain⟨j,_,rfl⟩:=aoX.1 g;refine⟨fun e=>(by cases e),fun f q=> ?_⟩;have c:=ap0 (apx (apA.1 q).1);unfold lK at c;obtain⟨i,r,c⟩:=api.1 c;obtain⟨k,s,rfl⟩:=aoX.1 c;have l:=apQ.1 r;have t:=apQ.1 s;have :=h.has b i n l;exact⟨l,by simp only;omega⟩
theorem kh.kX(h:kh a d)(r:b<a)(s:f<a){l:List jN}(p:∀m∈l,wS a d.P m)(q:l.length<=12):kh a (gJ d b f l):=by
 have e:∀c g,(gJ d b f l).ms c g=l\/(gJ d b f l).ms c g=d.ms c g:=fun c g=>by
  unfold gJ;simp only;by_cases n:c=b
  ·subst n
   by_cases o:g=f
   ·subst o;rw[bN,bN];exact .inl rfl
   ·rw[bN,ck _ _ o];exact .inr rfl
  ·rw[ck _ _ n];exact .inr rfl
 refine⟨h.wait,fun c g j k m i=> ?_,fun c g j k=> ?_,h.has,h.qO⟩
 ·rcases e c g with e|e
  ·rw[e]at i;exact p m i
  ·rw[e]at i;exact h.msg c g j k m i
 ·rcases e c g with e|e
  ·rw[e];exact q
  ·rw[e];exact h.len c g j k
theorem kh.ask(h:kh a d)(j:b<a)(k:f<a):kh a (DU a d b f):=by
 unfold DU;split
 ·exact h
 ·rename_i e
  refine h.kX j k (fun m g=> ?_) ?_
  ·rcases aoZ.1 g with g|g
   ·exact h.msg b f j k m g
   ·rw[ao2]at g
    subst g;refine⟨fun _=>⟨by simp,fun n o=> ?_⟩,fun c p=>(by cases p)⟩;obtain⟨i,q,rfl⟩:=aoX.1 o;have l:=apQ.1 q;have :=h.has b i j l;have :=h.qO i l;omega
  ·rw[aoW,ap1]
   omega
theorem kh.later(h:kh f d)(c:a<f)(g:b<f):kh f (Mm d a b):=by
 have i:=h.len a b c g;have j:=h.msg a b c g;unfold Mm
 match e:d.ms a b with
 |[]=>exact h
 |m::l=>
  simp only;rw[e]at i j;split
  ·exact h
  ·refine h.kX c g (fun k n=>j k ?_) ?_
   ·simpa[or_comm]using n
   ·simpa using i
theorem kh.DE(h:kh a d)(i:b<a)(j:f<a){us:List jN}(e:∀m∈us,wS a d.P m):kh a (gJ d b f (mA (d.sh b f) (d.ms b f) us)):=by
 refine h.kX i j ?_ (Z2 _ _ _ (h.len b f i j));have k:∀(us l:List jN),(∀m∈l,wS a d.P m)->(∀m∈us,wS a d.P m)->∀m∈mA (d.sh b f) l us,wS a d.P m:=by
  intro us
  induction us with
  |nil=>intro l g _;exact g
  |cons u us ih=>
   intro l g e;simp only[mA];refine ih _ (fun m c=> ?_) fun m c=>e m (by simp[c])
   split at c
   ·exact g m c
   ·rcases aoZ.1 c with c|c
    ·exact g m c
    ·rw[ao2]at c
     subst c;exact e _ (by simp)
 exact k us _ (h.msg b f i j) e
theorem kh.akg(h:kh f d)(j:b<f)(c:a<f)(o:b≠a):kh f (vw f d b a):=by
 have n:=h.len b a j c;have k:=h.msg b a j c;unfold vw
 match e:d.ms b a with
 |[]=>exact h
 |m::l=>
  simp only;rw[e]at n k;have g:kh f (gJ d b a l):=h.kX j c (fun p q=>k p (by simp[q])) (by simp at n;omega);split
  ·have r:kh f (wK (gJ d b a l) a b fun i=>m.heard.getD i 0):=⟨g.wait,g.msg,g.len,g.has,g.qO⟩
   have s:(wK (gJ d b a l) a b fun i=>m.heard.getD i 0).ms a b=d.ms a b:=by
    unfold wK gJ;simp only;rw[ck _ _ fun e=>o e.symm]
   have :=r.DE c j (us:=qz f (fun i=>m.heard.getD i 0) (d.has a) (d.lost a)) (h.answers c _ _);rw[s]at this;exact this
  ·exact g.comes c (k m (by simp)).2
theorem kh.wrote(h:kh b d){j:List bu}(o:(d.P a++j).length<=60):kh b (jB d a j):=by
 have k:∀i,(d.P i).length<=((jB d a j).P i).length:=fun i=>by
  unfold jB;simp only;by_cases e:i=a
  ·subst e;rw[bN,aoW];omega
  ·rw[ck _ _ e];omega
 refine⟨fun c g=>(h.wait c g).mono fun i _=>k i,fun c f g p m q=>(h.msg c f g p m q).mono fun i _=>k i,h.len,fun c i g l=> ?_,fun i l=> ?_⟩
 ·unfold jB
  simp only;split
  ·rename_i e
   rw[e.2,bN];omega
  ·have r:=h.has c i g l
   have n:=k i;unfold jB at n;simp only at n;omega
 ·unfold jB
  simp only;by_cases e:i=a
  ·subst e;rw[bN];exact o
  ·rw[ck _ _ e];exact h.qO i l
theorem akh(h:da e b m r u a d q)(ok:kh a d)(c f:Nat)(t:c<a)(l:f<a)(x:c≠f):
  O 114 #[Z b,A c,A f] e fun g F=>g=.returned (A (if d.ms c f=[] then 12 else 0))/\kK b a m r u q.cO e F (vw a d c f):=by
 have y:=aa (Rs h c f t l x);obtain⟨R,S,U,W,_,_,_,_,z,_,s⟩:=h.DX t l;obtain⟨X,Y,v,B,C⟩:=h.queue t l;rw[v]at s;have I:=aa h
 match j:d.ms c f with
 |[]=>
  rw[if_pos rfl];rw[j]at s;simp only[apv]at s;have w:=aa (show vw a d c f=d by unfold vw;rw[j]);clear h j C B v;go_enter func114,ntmps114;go_wp2_with fail
  refine y.o.mono ?_;rintro g L ⟨⟨M,N,k,rfl⟩,rfl⟩;rw[z]at k;simp only[apo,apD,apS,and_true,true_and]at k;obtain⟨rfl,rfl⟩:=k;go_wp2;go_ret
  exact⟨rfl,by rw[w.o];exact I.o.left (aoQ _ _)⟩
 |p::P=>
  rw[if_neg (by simp)];have w:=aa (aka h c f t l x j (ok.msg c f t l p (by rw[j];simp)) (ok.wait f l));rw[j]at s;simp only[apd]at s;obtain⟨n,D⟩:∃n,n=P.length:=⟨_,rfl⟩;rw[<-D]at s;have sx:¬((n:Int)+1=0):=by omega
  have v8:(((n:Int)+1)==0)=false:=by simp;omega
  clear h j C B v D;go_enter func114,ntmps114;go_wp2_with fail
  refine y.o.mono ?_;rintro g L ⟨⟨M,N,k,rfl⟩,rfl⟩;rw[z]at k;simp only[apo,apD,apS,and_true,true_and]at k;obtain⟨rfl,rfl⟩:=k;go_wp2_with fail
  refine w.o.mono ?_;rintro g w2 ⟨⟨i,rfl⟩,E⟩;have Q:=aa E;clear E;go_wp2;go_ret
  exact⟨rfl,Q.o⟩
def hQ (N g:Nat):Value:=.slice (some (H g)) N N
structure dy where
 gH:Nat
 j5:Nat
 qA:Value
 hR:List Nat
variable {j:List dy}{n:dy}
def dy.ints (x:dy):List Nat:=x.gH::x.j5::x.hR
def dy.dC (N:Nat) (x:dy):xB:=⟨hQ N x.gH,.slice none 0 0,hQ N x.j5,x.qA⟩
def aae (B:Nat) (w:World) (v:Value) (N:Nat):Prop:=w.ownsRow B 249 2 v N ((List.range N).flatMap fun _=>[Value.bool false,.slice none 0 0])
theorem aki(N:Nat):((List.range N).flatMap fun _=>[Value.bool false,Value.slice none 0 0]).length=N*2:=by
 induction N with
 |zero=>rfl
 |succ n ih=>rw[apz,apt,aoW,ih];simp;omega
theorem akj(b:a<=4):(yQ a).toList=(List.range a).flatMap fun _=>[Value.bool false,.slice none 0 0]:=by
 rcases(show a=0\/a=1\/a=2\/a=3\/a=4 by omega) with rfl|rfl|rfl|rfl|rfl<;>simp[yQ,madeCells,Value.cells,apz,apt]
theorem akk(h:e.heap[b]?=some (.cells (yQ a) 249 (0,0)))(g:f<=b)(i:a<=4):aae f e (hQ a b) a:=by
 have c:=akj i;have d:=aki a;have j:(yQ a).size=a*2:=by rw[<-arq,c,d]
 refine⟨d,.inr ⟨b,a,yQ a,rfl,g,h,aoP _,by unfold maxLen;omega,by omega,?_⟩⟩;rw[c,apc (by rw[d];omega)]
def akl (N B:Nat) (wr wc:World) (p:Value):Prop:=
 ∃c a b,p=Z c/\wc.heap[c]?=some (.cells #[hQ N a,.slice none 0 0,hQ N b,.slice none 0 0] 225 (0,0))/\wr.heap.size<=c/\zeros B wc (hQ N a) N/\zeros B wc (hQ N b) N/\wr.heap.size<=a/\wr.heap.size<=b/\a≠b/\J wr wc
def aaf (B N:Nat) (a b:World) (e:Nat) (h i:Value) (k:Nat):Prop:=
 ∃f c,(∃d:List Nat,c=d.map (hQ N)/\d.Nodup/\∀g∈d,a.heap.size<=g/\zeros B b (hQ N g) N)/\b.heap[e]?=some (.cells #[h,.slice none 0 0,i,f] 225 (0,0))/\c.length=k/\xy a.heap.size b 24 f c/\
  b.os=a.os/\b.tape=a.tape/\b.output=a.output/\a.heap.size<=b.heap.size/\∀g,g<a.heap.size->g≠e->b.heap[g]?=a.heap[g]?
theorem akm{wr W:World}{y:Nat}(X:e.heap.size<=wr.heap.size)(Y:f<=e.heap.size)(F:a<=4)(z:xy e.heap.size wr 24 k v)(n:∃r:List Nat,v=r.map (hQ a)/\r.Nodup/\∀g∈r,e.heap.size<=g/\zeros f wr (hQ a g) a)(u:wr.os=e.os/\wr.tape=e.tape/\wr.output=e.output/\∀g,g<e.heap.size->g≠b->wr.heap[g]?=e.heap[g]?)(j:J wr W)(az:y=wr.heap.size)(I:W.heap[y]?=some (.cells (pw a) 3 (0,0)))(B:s.ownsRow e.heap.size 24 1 h (v.length+1) ((v++[hQ a y]).flatMap one))(p:W.grownBy s k.ownBlock)(x:s.heap[b]?=some (.cells #[l,.slice none 0 0,w,k] 225 (0,0))):
  aaf f a e (s.setCell (K b 3) h) b l w (v.length+1):=by
 obtain⟨r,L,n⟩:=n;have M:h.ownBlock≠some b:=fun c=>by obtain⟨Ku,N⟩:=bt B c;exact absurd (bz N x) (by decide)
 have stay:∀(g:Nat) (t:Array Value),W.heap[g]?=some (.cells t 3 (0,0))->(s.setCell (K b 3) h).heap[g]?=some (.cells t 3 (0,0)):=fun g t o=>by
  have P:=aM o;have C:s.heap[g]?=W.heap[g]?:=p.block g P fun c=>by
   obtain⟨bd,Q⟩:=bt z c.symm;have :=bj Q j;exact absurd (bz o this) (by decide)
  rw[apj _ _ _ _ (show g≠b from fun c=>by
   subst c;rw[C,o]at x;simp at x)]
  rw[C];exact o
 refine⟨h,v++[hQ a y],⟨r++[y],by rw[ao8,L];rfl,?_,fun g m=> ?_⟩,KI x,by simp,?_,?_,?_,?_,?_,?_⟩
 ·refine aps.2 ⟨n.1,by simp,fun d R i D c=> ?_⟩
  rw[ao2]at D;subst D c;have :=(aoT (n.2 d R).2 d rfl).2;omega
 ·rcases aoZ.1 m with m|m
  ·refine⟨(n.2 g m).1,b4 (n.2 g m).2 fun q S=> ?_⟩
   obtain⟨t,o⟩:=bt (n.2 g m).2 S;rw[stay q t (bj o j),o]
  ·rw[ao2]at m
   subst m;exact⟨by omega,Oo (stay g _ I) (by omega) F⟩
 ·unfold xy
  rw[aoW];exact iW B M _
 ·have :=p.os;simp[World.setCell];rw[this,j.os,u.1]
 ·have :=p.tape;simp[World.setCell];rw[this,j.tape,u.2.1]
 ·have :=p.output;simp[World.setCell];rw[this,j.output,u.2.2.1]
 ·have :=p.size;have :=j.size;simp[World.setCell];omega
 ·intro g U E
  rw[apj _ _ _ _ E,p.block g (by have :=j.size;omega) (fun c=>by have :=(aoT z g c.symm).1;omega),j.block g (by omega),u.2.2.2 g U E]
structure fJ (w wr:World) (N r:Nat) (aN aG aQ:Value) (ch:List dy) (gl:List Nat):Prop where
 at':sH w wr N r aN aG aQ (ch.map (dy.dC N)) (gl.map (hQ N))
 b9:∀x∈ch,zeros w.heap.size wr (hQ N x.j5) N
 cw:∀x∈ch,xy w.heap.size wr 24 x.qA (x.hR.map (hQ N))/\x.hR.length=N/\∀g∈x.hR,zeros w.heap.size wr (hQ N g) N
 ji:(ch.flatMap dy.ints).Nodup
 hl:∀g∈gl,aae w.heap.size wr (hQ N g) N
 MN:gl.Nodup
theorem fJ.ints{w wr N r d e f c i}(h:fJ w wr N r d e f c i):∀g∈c.flatMap dy.ints,zeros w.heap.size wr (hQ N g) N:=by
 intro g a;obtain⟨x,b,a⟩:=api.1 a;unfold dy.ints at a;rcases ao3.1 a with rfl|a
 ·exact h.at'.hH (dy.dC N x) (aoX.2 ⟨x,b,rfl⟩)
 ·rcases ao3.1 a with rfl|a
  ·exact h.b9 x b
  ·exact(h.cw x b).2.2 g a
theorem fJ.af{w wr N r d e f i j}{W:World}(h:fJ w wr N r d e f i j)(a:J wr W):fJ w W N r d e f i j:=
 ⟨h.at'.af a,fun x b=>c5 (h.b9 x b) a,fun x b=>⟨c5 (h.cw x b).1 a,(h.cw x b).2.1,fun g c=>c5 ((h.cw x b).2.2 g c) a⟩,h.ji,fun g c=>c5 (h.hl g c) a,h.MN⟩
theorem fJ.copy{w wr N r n p q f s}{W l:World}{n0:Nat}(h:fJ w wr N r n p q f s)(i:J wr W){x:dy}{j:Value}(z:l.ownsRow w.heap.size 225 4 j ((f.map (dy.dC N)).length+1) ((f.map (dy.dC N)++[dy.dC N x]).flatMap dC))(d:W.grownBy l p.ownBlock)(B:zeros w.heap.size wr (hQ N x.gH) N)(C:zeros w.heap.size wr (hQ N x.j5) N)(m:xy w.heap.size wr 24 x.qA (x.hR.map (hQ N))/\x.hR.length=N/\∀g∈x.hR,zeros w.heap.size wr (hQ N g) N)(D:x.ints.Nodup)(t:∀g∈x.ints,n0<=g)(v:∀g∈f.flatMap dy.ints,g<n0):fJ w (l.setCell (K r 2) j) N r n j q (f++[x]) s:=by
 obtain⟨rows,M,P⟩:=h.at'.rest (u:=j) (o:=2) i h.at'.fx d (aoP _);refine⟨?_,fun y c=> ?_,fun y c=> ?_,?_,fun g d=>rows (h.hl g d) (by decide) (by decide),h.MN⟩
 ·rw[ao8]
  refine h.at'.copy i z d B fun y c e=> ?_
  obtain⟨k,E,rfl⟩:=aoX.1 c;have Q:k.gH=x.gH:=by
   have :some k.gH=some x.gH:=e;exact apE this
  have F:=v k.gH (api.2 ⟨k,E,by unfold dy.ints;simp⟩);have I:=t x.gH (by unfold dy.ints;simp);omega
 ·rcases aoZ.1 c with c|c
  ·exact rows (h.b9 y c) (by decide) (by decide)
  ·rw[ao2]at c;subst c;exact rows C (by decide) (by decide)
 ·rcases aoZ.1 c with c|c
  ·exact⟨rows (h.cw y c).1 (by decide) (by decide),(h.cw y c).2.1,fun g d=>rows ((h.cw y c).2.2 g d) (by decide) (by decide)⟩
  ·rw[ao2]at c;subst c;exact⟨rows m.1 (by decide) (by decide),m.2.1,fun g d=>rows (m.2.2 g d) (by decide) (by decide)⟩
 ·rw[apt,ape,aq8,apu]
  refine aps.2 ⟨h.ji,D,fun a L b i e=> ?_⟩;have F:=v a L;have I:=t b i;omega
theorem fJ.link{w wr N r k l m n j}{W d:World}(h:fJ w wr N r k l m n j)(v:N<=4)(p:J wr W){y:Nat}{f:Value}(z:y=wr.heap.size)(q:W.heap[y]?=some (.cells (yQ N) 249 (0,0)))(B:d.ownsRow w.heap.size 226 1 f ((j.map (hQ N)).length+1) ((j.map (hQ N)++[hQ N y]).flatMap one))(c:W.grownBy d m.ownBlock):
  fJ w (d.setCell (K r 3) f) N r k l f n (j++[y]):=by
 obtain⟨rows,s,L⟩:=h.at'.rest (u:=f) (o:=3) p h.at'.cl c (aoP _);have s:=s (by decide);have C:=aM q;have D:w.heap.size<=y:=by rw[z];exact h.at'.below.size
 have E:(d.setCell (K r 3) f).heap[y]?=some (.cells (yQ N) 249 (0,0)):=by
  have F:d.heap[y]?=W.heap[y]?:=c.block y C fun e=>by
   have :=(aoT h.at'.cl y e.symm).2;omega
  rw[apj _ _ _ _ (show y≠r from fun e=>by have :=aM h.at'.aI;omega),F];exact q
 refine⟨?_,fun x i=>rows (h.b9 x i) (by decide) (by decide),fun x i=>⟨rows (h.cw x i).1 (by decide) (by decide),(h.cw x i).2.1,fun g c=>rows ((h.cw x i).2.2 g c) (by decide) (by decide)⟩,h.ji,fun g c=> ?_,?_⟩
 ·rw[ao8]
  exact h.at'.link p B c
 ·rcases aoZ.1 c with c|c
  ·exact rows (h.hl g c) (by decide) (by decide)
  ·rw[ao2]at c;subst c;exact akk E D v
 ·refine aps.2 ⟨h.MN,by simp,fun a I b t e=> ?_⟩
  rw[ao2]at t;subst t e;have :=(aoT (h.hl a I) a rfl).2;omega
theorem fJ.t{w wr r}{cs:List xB}(b:fJ w wr a r h k l j i)(c:cs=j.map (dy.dC a))(d:v=i.map (hQ a)):sH w wr a r h k l cs v:=by
 subst c d;exact b.at'
theorem dy.all{P:Nat->Prop}(d:P a)(e:P b)(f:∀g∈i,P g):∀g∈dy.ints ⟨a,b,h,i⟩,P g:=by
 intro g c;unfold dy.ints at c;rcases ao3.1 c with rfl|c
 ·exact d
 ·rcases ao3.1 c with rfl|c
  ·exact e
  ·exact f g c
theorem dy.nodup{n:Nat}(c:a≠b)(j:i.Nodup)(f:∀g∈i,n<=g)(k:a<n)(l:b<n):(dy.ints ⟨a,b,h,i⟩).Nodup:=by
 show(a::b::i).Nodup;refine apg.2 ⟨fun d=> ?_,apg.2 ⟨fun d=> ?_,j⟩⟩
 ·rcases ao3.1 d with e|d
  ·exact c e
  ·have :=f _ d;omega
 ·have :=f _ d
  omega
theorem akn(N s:Nat)(h1:1<=N)(h2:N<=4)(ak:1<=s)(aL:s<=50)(w:World):
  O 93 #[.int .i64 N,.int .i64 s] w fun e w'=>∃r R S U d n,e=.returned (.tuple #[.pointer (some ⟨r,0,none⟩),.int .i64 0])/\fJ w w' N r R S U d n/\d.length=N/\n.length=N:=by
 obtain⟨aoq,hiO,aag,aah,aai⟩:=info_parts (P:=prog) (e:=255) (z:=.slice none 0 0) (size:=1) (bytes:=24) (by kernel_rfl);obtain⟨aoN,Zu,anK,anL,anM⟩:=info_parts (P:=prog) (e:=3) (z:=.int .i64 0) (size:=1) (bytes:=8) (by kernel_rfl);obtain⟨o8,hiL,anN,anO,anP⟩:=info_parts (P:=prog) (e:=249) (z:=.agg #[.bool false,.slice none 0 0]) (size:=2) (bytes:=32) (by kernel_rfl);go_enter func93,ntmps93;go_wp2_with (at_make;go_must (refine wpList_make_full _ rfl (.tmp 25) (.tmp 25) 218 rfl w.heap.size 255 aoq (.slice none 0 0) 1 underlying218 hiO aag aah _ _ _ _ N rfl rfl ?h1 ?h2 ?ak ?aL ?bW ?_;(case h1=>rfl);(case h2=>rfl);(case ak=>rw[aai];omega);(case aL=>unfold maxLen;omega);(case bW=>simp);intro w1 ma dd;have pX:=aa (adP ma);clear ma;have dE:=aa dd;clear dd))
 have ax:=aa (show Below w.heap.size w w1 from(aoQ _ w).grown dE.o (aoP _) (fun k hk=>by cases hk));have HN0:Hq (sH w (w1.alloc (.cells #[.int .i64 N,.slice (some ⟨w.heap.size,0,none⟩) N N,.slice none 0 0,.slice none 0 0] 222)) N w1.heap.size (.slice (some ⟨w.heap.size,0,none⟩) N N) (.slice none 0 0) (.slice none 0 0) [] []):=
  ⟨bL _ _,ax.o.size,pX.o.alloc _,ao9 _ _ _ _,fun x D=>by simp at D,List.Pairwise.nil,ao9 _ _ _ _,ax.o.alloc ax.o.size _⟩
 generalize w1.heap.size=r at *;generalize Value.slice (some ⟨w.heap.size,0,none⟩) N N=R at *;clear hiO aag aah aai pX dE ax;go_loopw [7] (fun i wr=>∃m:Nat,m<=N/\i=.int .i64 m/\∃S U E f d n,(fJ w wr N r R S U d n/\E=d.map (dy.dC N)/\f=n.map (hQ N))/\E.length=m/\f.length=m) (fun i _=>N-(intOf i).toNat)
 case atStart=>exact⟨0,aoR _,rfl,_,_,[],[],[],[],⟨⟨HN0.o,fun x D=>by simp at D,fun x D=>by simp at D,by simp,fun x D=>by simp at D,by simp⟩,rfl,rfl⟩,rfl,rfl⟩
 case round=>
  obtain⟨m,hm,rfl,S,U,E,f,d,n,⟨dT,gv,sC⟩,kb,nE⟩:=hrel;subst kb;have vM:=aa nE;clear nE;obtain⟨F,rZ⟩:∃F,F=wr:=⟨_,rfl⟩;subst rZ;have Sb:=aa dT;have hI:=aa (dT.t gv sC);clear dT;have Sc:=aa gv;clear gv;have ly:=aa sC;clear sC;by_cases aE:E.length<N
  ·have Br:=hI.o.below.size
   go_wp2;go_cut [8] (fun p wc=>akl N w.heap.size F wc p)
   case first =>
    have CL:=Oj N h2;go_region
    all_goals(go_wp2_with fail;go_meet)
    all_goals exact⟨_,_,_,rfl,(by first |exact Ol _ _ _ _|exact Om _ _ _ _|exact On _ _ _ _),by omega,Oo (by first |exact Ol _ _ _ _|exact Om _ _ _ _|exact On _ _ _ _) (by omega) h2,Oo (by first |exact Ol _ _ _ _|exact Om _ _ _ _|exact On _ _ _ _) (by omega) h2,by omega,by omega,by omega,adQ _ _ _ _⟩
   case rest=>
    obtain⟨mO,gH,j5,rfl,I,hcw,bJ,hzt,W,aaj,mv,CQ⟩:=hcut;have Bq:=aa (And.intro W (And.intro aaj mv));clear W aaj mv;have HZT:=aa hzt;clear hzt;obtain⟨BT,Ax⟩:∃v,v=hQ N gH:=⟨_,rfl⟩;obtain⟨zY,MO⟩:∃v,v=hQ N j5:=⟨_,rfl⟩;rw[<-Ax]at I bJ;rw[<-MO]at I;have vx:zY.oneCell'=true:=by rw[MO];rfl
    have aak:=aa (And.intro Ax MO);clear Ax MO;have Sd:=aa I;clear I;have u:=aa CQ;clear CQ;have GI:=aa bJ;clear bJ;have gv:=aM Sd.o;have CL:=Oj N h2;go_wp2;go_loopw [9] (fun i hd=>∃q:Nat,q<=N/\i=.int .i64 q/\aaf w.heap.size N wc hd mO BT zY q) (fun i _=>N-(intOf i).toNat)
    case atStart=>exact⟨0,aoR _,rfl,_,[],⟨[],rfl,apT,fun g a=>by simp at a⟩,Sd.o,rfl,ao9 _ _ _ _,rfl,rfl,rfl,aoP _,fun _ _ _=>rfl⟩
    case round=>
     obtain⟨q,ao,rfl,hk⟩:=hrel;obtain⟨qA,L,M,I,eh,bm,iU,hta,hou,hsz,Fi⟩:=hk;have HGK:=aa M;clear M;subst eh;obtain⟨BU,Bj,rfl,BR,E2,_⟩:=bp bm;have vj:=aa bm;clear bm;have Q:=aa (And.intro iU (And.intro hta (And.intro hou Fi)));clear iU hta hou Fi;have j:=aa I;clear I;have rk:=aM j.o;by_cases Bi:L.length<N
     ·have bV:=sG j.o
      have an7:=cS j.o;have Og:=aa (show some mO≠(Value.slice BU L.length Bj).ownBlock from fun e=>by obtain⟨Ku,xu⟩:=bt vj.o e.symm;exact absurd (bz j.o xu) (by decide));go_wp2;go_region_law (refine xi one 1 24 44 24 (.slice none 0 0) (by kernel_rfl) underlying44 rfl (by omega) (fun _=>rfl) rfl (.tmp 45) (.tmp 48) rfl wc.heap.size (.slice BU L.length Bj) L (by simp[Act.eval,Act.put]) ?h1 (wr.heap.size+1) 1 (.slice (some ⟨wr.heap.size,0,none⟩) N N) (by simp[Act.eval,Act.put]) ?h2 ?ak ?aL ?bW ?eR ?_;(case h1=>exact((vj.o.alloc _).alloc _).drew);(case h2=>exact one_cell (by simp[go_sem]));(case ak=>exact UQ);(case aL=>omega);(case bW=>unfold maxLen;omega);(case eR=>simp[World.drew];omega);intro v' X b c Y;have B:=aa (And.intro b c);obtain⟨a3,GB,jI,_,_,_⟩:=bp b;subst jI;have n9:=aa (show X.heap[mO]?=some (.cells #[BT,.slice none 0 0,zY,.slice BU L.length Bj] 225 (0,0)) by rw[c.block mO (by simp[World.drew];omega) Og.o];exact mi (mi j.o));have cb3:=sG n9.o;have cf3:=cS n9.o;clear b c Y)
      all_goals(try go_wp2)
      all_goals go_roundw
      all_goals first |(simp[intOf];omega)|exact⟨L.length+1,by omega,by go_num,akm (y:=wr.heap.size) hsz (aoS Br u.o.size) h2 vj.o HGK.o Q.o ((((aoQ _ wr).alloc (aoP _) _).alloc (by simp) _).drew) rfl (mi (bL wr _)) B.o.1 B.o.2 n9.o⟩
     ·have HQB:=aa (show Below F.heap.size F wr from⟨Q.o.1.trans u.o.os,Q.o.2.1.trans u.o.tape,Q.o.2.2.1.trans u.o.output,aoS u.o.size hsz,fun g a=>by rw[Q.o.2.2.2 g (aoV a u.o.size) (by omega),u.o.block g a]⟩)
      have l:=aa (hI.o.af HQB.o);have HZA:=aa (show ∀v,zeros w.heap.size wc v N->zeros w.heap.size wr v N from fun v aH=>b4 aH (fun g a=>Q.o.2.2.2 g (aoT aH g a).2 (by intro e;subst e;obtain⟨b2,b7⟩:=bt aH a;exact absurd (bz b7 Sd.o) (by decide))));have HRQ:=aa (Sb.o.af HQB.o);obtain⟨Gf,vcc,vS,_,_,_⟩:=bp l.o.fx;obtain⟨MP,MQ,k2,_,_,_⟩:=bp l.o.cl;subst vS;subst k2;have aor:=UR l.o.aI;have kT:=cS l.o.aI;have jS:=uJ j.o;have q1:=uK j.o;have kz:=xA j.o;have xk:=sG j.o;have od:=aM l.o.aI;have Dd:=aa (show some r≠(Value.slice Gf E.length vcc).ownBlock from fun e=>by obtain⟨b2,b7⟩:=bt l.o.fx e.symm;exact absurd (bz l.o.aI b7) (by decide));obtain⟨au,hc,W,_,_,_⟩:=bp GI.o;have Oy:=aa W;clear W;have ako:=vx;go_wp2;go_cut [] (fun wd=>∃v' x,fJ w wd N r R v' (.slice MP f.length MQ) (d++[x]) n)
      case first =>
       go_region_law (refine xi dC 4 96 219 225 (.agg #[.slice none 0 0,.slice none 0 0,.slice none 0 0,.slice none 0 0]) (by kernel_rfl) underlying219 rfl (by omega) (fun _=>rfl) rfl (.tmp 55) (.tmp 57) rfl w.heap.size (.slice Gf E.length vcc) E (by simp[Act.eval,Act.put]) ?h1 wr.heap.size 1 ⟨BT,.slice none 0 0,zY,.slice BU L.length Bj⟩ (by simp[Act.eval,Act.put]) ?h2 ?ak ?aL ?bW ?eR ?_;(case h1=>exact(l.o.fx.alloc _).drew);(case h2=>exact adS (bL wr _));(case ak=>exact adR Oy.o ako);(case aL=>omega);(case bW=>unfold maxLen;omega);(case eR=>simp[World.drew];omega);intro v' X b c Y;have B:=aa (And.intro b c);obtain⟨a3,GB,jI,_,_,_⟩:=bp b;subst jI;have ht:=aa (show X.heap[r]?=_ from(c.block r (by simp[World.drew];omega) Dd.o).trans (mi l.o.aI));have aos:=UR ht.o;have rf3:=cS ht.o;clear b c Y)
       all_goals(go_wp2_with fail;go_meet)
       all_goals
        have aj:=Sc.o;have aw:=aak.o.1;have cY:=aak.o.2;obtain⟨hR,ET,mv,M⟩:=HGK.o;subst aj aw cY ET;have cP:hR.length=N:=by have :=Bi;have :=ao;simp only[aoU]at *;omega
        have i1:=Bq.o;have dz:=(aoT GI.o gH rfl).2;have cy:=(aoT HZT.o j5 rfl).2;have bx:=u.o.size;exact⟨_,⟨gH,j5,_,hR⟩,HRQ.o.copy (n0:=F.heap.size) (((aoQ _ wr).alloc (aoP _) _).drew) B.o.1 B.o.2 (HZA.o _ GI.o) (HZA.o _ HZT.o) ⟨gC vj.o (by omega),cP,fun g a=>(M g a).2⟩ (dy.nodup i1.2.2 mv (fun g a=>(M g a).1) dz cy) (fun g a=>dy.all (P:=fun g=>F.heap.size<=g) i1.1 i1.2.1 (fun g a=>by have :=(M g a).1;omega) g a) (fun g a=>(aoT (Sb.o.ints g a) g rfl).2)⟩
      case rest=>
       obtain⟨v',x,cB⟩:=hcut;have C:=aa cB;clear cB;have P3:=aa (show xy w.heap.size wc 226 (.slice MP f.length MQ) f from by have :=C.o.at'.cl;rw[<-ly.o]at this;exact this);have d3:=sG C.o.at'.aI;have aoO:=cS C.o.at'.aI;have gP:=aM C.o.at'.aI;have hdz:=C.o.at'.below.size;have ze:=adO N h2;have Dd:=aa (show some r≠(Value.slice MP f.length MQ).ownBlock from fun e=>by obtain⟨b2,b7⟩:=bt P3.o e.symm;exact absurd (bz C.o.at'.aI b7) (by decide));clear aor kT jS q1 kz xk;go_wp2;go_region_law (refine xi one 1 24 220 226 (.slice none 0 0) (by kernel_rfl) underlying220 rfl (by omega) (fun _=>rfl) rfl (.tmp 65) (.tmp 68) rfl w.heap.size (.slice MP f.length MQ) f (by simp[Act.eval,Act.put]) ?h1 (wc.heap.size+1) 1 (.slice (some ⟨wc.heap.size,0,none⟩) N N) (by simp[Act.eval,Act.put]) ?h2 ?ak ?aL ?bW ?eR ?_;(case h1=>exact((aqd P3.o _).alloc _).drew);(case h2=>exact one_cell (by simp[go_sem]));(case ak=>exact UQ);(case aL=>have :=vM.o;omega);(case bW=>have :=vM.o;unfold maxLen;omega);(case eR=>simp[World.drew];omega);intro v'' X b c Y;have B:=aa (And.intro b c);obtain⟨a3,GB,jI,_,_,_⟩:=bp b;subst jI;have ht:=aa (show X.heap[r]?=_ from(c.block r (by simp[World.drew];omega) Dd.o).trans (mi (mi C.o.at'.aI)));have aos:=sG ht.o;have rf3:=cS ht.o;clear b c Y)
       all_goals(try go_wp2)
       all_goals go_roundw
       all_goals first |(simp[intOf];omega)|skip
       all_goals
        have ct:=vM.o;have aj:=Sc.o;have aw:=ly.o;subst aj aw;exact⟨(d.map (dy.dC N)).length+1,by omega,by go_num,_,_,_,_,_,_,⟨C.o.link h2 (y:=wc.heap.size) ((((aoQ _ wc).alloc (aoP _) _).alloc (by simp) _).drew) rfl (mi (bL wc _)) B.o.1 B.o.2,rfl,rfl⟩,by simp,by simpa using ct⟩
  ·go_wp2
   go_ret2
   have ct:=vM.o;have aj:=Sc.o;have aw:=ly.o;subst aj aw;simp only[aoU]at *;exact⟨r,R,S,U,d,n,rfl,Sb.o,by omega,by omega⟩
theorem aal {α:Type} {f:α->List Nat}:∀{l:List α},(l.flatMap f).Nodup->∀a∈l,(f a).Nodup
 |[],_,a,h=>by cases h
 |x::l,b,a,h=>by
  rw[ape]at b;have :=aps.1 b;rcases ao3.1 h with rfl|h
  ·exact this.1
  ·exact aal this.2.1 a h
theorem Ea {α:Type} {f:α->List Nat}:∀{l:List α},(l.flatMap f).Nodup->∀(i j:Nat) (a b:α),l[i]?=some a->l[j]?=some b->i≠j->∀k∈f a,k∉f b
 |[],_,i,_,a,b,c,_,_,k,_=>by simp at c
 |x::l,h,i,j,a,b,c,d,n,k,e=>fun g=>by
  rw[ape]at h;obtain⟨_,o,m⟩:=aps.1 h
  match i,j with
  |0,0=>exact n rfl
  |0,j+1=>
   simp at c d;subst c;exact m k e k (api.2 ⟨b,aq0 d,g⟩) rfl
  |i+1,0=>
   simp at c d;subst d;exact m k g k (api.2 ⟨a,aq0 c,e⟩) rfl
  |i+1,j+1=>
   simp at c d;exact Ea o i j a b c d (by omega) k e g
theorem aam(c:zeros b e h a):kJ 0 e h ((List.range a).map fun _=>0):=by
 have d:∀l:List Nat,(l.map fun _=>0).flatMap o7=l.map fun _=>A 0:=fun l=>by
  induction l with
  |nil=>rfl
  |cons f l ih=>rw[apb,ape,ih];rfl
 unfold kJ;rw[d,aoU,ap4];exact gC c (aoR _)
theorem dy.hIn(y:dy):y.gH∈y.ints:=by unfold dy.ints;simp
theorem dy.MR(y:dy):y.j5∈y.ints:=by unfold dy.ints;simp
theorem dy.MS{g:Nat}(h:g∈n.hR):g∈n.ints:=by unfold dy.ints;simp[h]
theorem dy.aF(h:n.ints.Nodup):n.gH≠n.j5:=by
 unfold dy.ints at h;intro e;have :=(apg.1 h).1;rw[e]at this;simp at this
theorem dy.hk{y:dy}(h:y.ints.Nodup):y.gH∉y.hR:=by
 unfold dy.ints at h;intro e;exact(apg.1 h).1 (by simp[e])
theorem dy.aot(h:n.ints.Nodup):n.j5∉n.hR:=by
 unfold dy.ints at h;exact(apg.1 (apg.1 h).2).1
theorem dy.qq(h:n.ints.Nodup):n.hR.Nodup:=by
 unfold dy.ints at h;exact(apg.1 (apg.1 h).2).2
def z6:Value:=.slice none 0 0
def jC (N:Nat) (a:List dy) (c j:Nat):Value:=match a[c]? with |some y=>(match j with |0=>hQ N y.gH|1=>z6|2=>hQ N y.j5|_=>y.qA)|none=>z6
def wU (N:Nat) (a:List dy) (c d:Nat):Value:=match a[c]? with |some y=>(match y.hR[d]? with |some g=>hQ N g|none=>z6)|none=>z6
def yu (N:Nat) (a:List Nat) (i:Nat):Value:=match a[i]? with |some g=>hQ N g|none=>z6
def Sf:cq:=⟨fun _=>[],fun _ _=>0,fun _=>[],fun _ _=>0,fun _ _ _=>0,fun _ _=>[],fun _ _=>false⟩
def anZ (N:Nat) (b c d:Value) (a:List dy) (e:List Nat):fm:=⟨b,c,d,fun _=>z6,fun _=>[],jC N a,wU N a,yu N e,fun _ _=>z6,fun _ _=>[]⟩
def Sg (r:Nat) (a b:Value) (c:List dy) (k:Nat):Prop:=k=r\/a.ownBlock=some k\/b.ownBlock=some k\/∃y∈c,k=y.gH
def an0 (w a:World) (r:Nat) (b c:Value) (d:List dy) (k:Nat):Prop:=(w.heap.size<=k/\k<a.heap.size)/\¬Sg r b c d k
theorem akp {α:Type} {f:α->List Value} {g:Nat->List Value} {l:List α} (h:∀c a,l[c]?=some a->g c=f a):(List.range l.length).flatMap g=l.flatMap f:=by
 have :∀k,k<=l.length->(List.range k).flatMap g=(l.take k).flatMap f:=by
  intro k b
  induction k with
  |zero=>simp
  |succ k ih=>
   rw[apz,apt,ih (by omega),aph (by omega),apt];simp[h k _ (apH (by omega))]
 rw[this _ (aoP _),apc (aoP _)]
theorem aan {α:Type} {f:α->Value} {g:Nat->Value} {l:List α} (h:∀c a,l[c]?=some a->g c=f a):(List.range l.length).map g=l.map f:=by
 apply ap6;intro c;by_cases b:c<l.length
 ·have e:=apH b
  rw[ap7,ap7,e,arB b];simp[h c _ e]
 ·rw[aqI (by simp;omega),aqI (by simp;omega)]
theorem aao(l:List Value):l.flatMap one=l:=by
 induction l with
 |nil=>rfl
 |cons a l ih=>rw[ape,ih];rfl
theorem fJ.get(c:j.length=a)(h:b<a):∃y,j[b]?=some y/\y∈j/\jC a j b 0=hQ a y.gH/\jC a j b 1=z6/\jC a j b 2=hQ a y.j5/\jC a j b 3=y.qA:=by
 have e:=apH (l:=j) (i:=b) (by omega);exact⟨_,e,aoY _,by simp only[jC,e],by simp only[jC,e],by simp only[jC,e],by simp only[jC,e]⟩
theorem fJ.Jd(k:j.length=a)(m:∀y∈j,y.hR.length=a)(h:f<a)(n:b<a):∃y g,j[f]?=some y/\y∈j/\y.hR[b]?=some g/\g∈y.hR/\wU a j f b=hQ a g:=by
 obtain⟨y,e,c,_⟩:=fJ.get k h;have d:=apH (l:=y.hR) (i:=b) (by rw[m y c];exact n);exact⟨y,_,e,c,d,aoY _,by simp only[wU,e,d]⟩
theorem fJ.MT{b:List Nat}(c:b.length=a){i:Nat}(h:i<a):∃g,b[i]?=some g/\g∈b/\yu a b i=hQ a g:=by
 have e:=apH (l:=b) (i:=i) (by omega);exact⟨_,e,aoY _,by simp only[yu,e]⟩
theorem fJ.akq(c:fJ s e f b h k l j i){q:Array Value}{t:TypeId}(n:e.heap[a]?=some (.cells q t (0,0)))(r:t≠222)(u:t≠255)(v:t≠225)(g:t≠3\/∀y∈j,a≠y.gH):¬Sg b h k j a:=by
 rintro(rfl|d|d|⟨y,o,rfl⟩)
 ·exact r (bz n c.at'.aI)
 ·obtain⟨p,m⟩:=bt c.at'.hq d
  exact u (bz n m)
 ·obtain⟨p,m⟩:=bt c.at'.fx d
  exact v (bz n m)
 ·rcases g with g|g
  ·obtain⟨p,m⟩:=bt (c.ints y.gH (api.2 ⟨y,o,y.hIn⟩)) rfl
   exact g (bz n m)
  ·exact g y o rfl
theorem fJ.Je(c:fJ e s f b h k w j i){n m:Nat}{t:TypeId}(d:s.ownsRow e.heap.size t m l n v)(o:t≠222)(p:t≠255)(q:t≠225)(g:l.ownBlock=some a)(r:t≠3\/∀y∈j,a≠y.gH):an0 e s b h k j a:=by
 obtain⟨x,u⟩:=bt d g;exact⟨aoT d a g,c.akq u o p q r⟩
theorem fJ.akr(q:fJ s e a b h k w j i)(C:j.length=a)(Y:i.length=a)(hN:a<=4):da e b (Sg b h k j) (an0 s e b h k j) (fun _=>False) a Sf (anZ a h k w j i):=by
 have eh:∀y∈j,y.hR.length=a:=fun y x=>(q.cw y x).2.1
 have MU:∀y∈j,y.ints.Nodup:=aal q.ji;have Oa:∀{c:Nat} {y:dy},j[c]?=some y->∀z∈j,y.j5≠z.gH:=fun{c y} x z N p=>by
  obtain⟨E,D,I⟩:=List.getElem_of_mem N;have B:j[E]?=some z:=by rw[apH D,I]
  by_cases R:c=E
  ·subst R
   obtain rfl:=apE (x.symm.trans B);exact dy.aF (MU _ N) p.symm
  ·exact Ea q.ji c E y z x B R y.j5 y.MR (p▸z.hIn)
 have KA:∀{c:Nat} {y:dy},j[c]?=some y->∀g∈y.hR,∀z∈j,g≠z.gH:=fun{c y} x g P z N p=>by
  obtain⟨E,D,I⟩:=List.getElem_of_mem N;have B:j[E]?=some z:=by rw[apH D,I]
  by_cases R:c=E
  ·subst R
   obtain rfl:=apE (x.symm.trans B);exact dy.hk (MU _ N) (p▸P)
  ·exact Ea q.ji c E y z x B R g (dy.MS P) (p▸z.hIn)
 have aI:=aM q.at'.aI;have fb:(List.range a).flatMap (fun c=>[jC a j c 0,jC a j c 1,jC a j c 2,jC a j c 3])=(j.map (dy.dC a)).flatMap dC:=by
  rw[<-C];have :=akp (l:=j.map (dy.dC a)) (f:=dC) (g:=fun c=>[jC a j c 0,jC a j c 1,jC a j c 2,jC a j c 3]) (fun c u au=>by
   rw[ap7]at au;cases x:j[c]? with
   |none=>rw[x]at au;simp at au
   |some y=>rw[x]at au;simp at au;subst au;simp only[jC,x];rfl)
  rw[aoU]at this;rw[C]at this⊢;exact this
 refine⟨⟨⟨q.at'.aI,hN,gC q.at'.hq (aoR _),fun r L=>⟨ao9 _ _ _ _,fun o ae=>(by cases ae)⟩,?_,?_,fun c r C L=>aoR _,fun r L=>aoR _⟩,⟨fun r t _ _ _=>.inl rfl,?_⟩,fun r L=>rfl,.inl rfl,fun n v=>.inr (.inl v),fun n v=>.inr (.inr (.inl v)),fun r L n v=>(by cases v),fun c D n v=> ?_,fun r L o ae=>(by cases ae),fun n v=> ?_⟩,fun c D=> ?_,fun c D=> ?_,fun c D=> ?_,fun c d D W=> ?_,?_,fun r L=> ?_,fun r t L ar=>jP.nil _ _ _,fun r t L ar=>rfl,fun r t L ar m hm=>(by cases hm),fun c D n v=> ?_,fun c D n v=> ?_,fun c D n v=> ?_,fun c d D W n v=> ?_,fun n v=> ?_,fun r L n v=> ?_,fun r t L ar n v=>(by cases v),?_,?_,?_,?_,?_,fun r t lk zQ _ _ _ _ _ n v=>(by cases v),fun n v=>v.2,fun n v=>v.1.2,fun n v=>v.elim,fun n v=>v.elim,fun n v=>v.elim⟩
 ·rw[show(anZ a h k w j i).cp=jC a j from rfl,fb]
  have :=gC q.at'.fx (aoR _);rw[aoU,C]at this;exact this
 ·intro c D
  obtain⟨y,p,x,ct,_⟩:=fJ.get C D;show e.ownsRow 0 _ 1 (jC a j c 0) a _;rw[ct];exact gC (q.ints y.gH (api.2 ⟨y,x,y.hIn⟩)) (aoR _)
 ·intro c E F S U
  obtain⟨y,p,x,ct,_⟩:=fJ.get C F;obtain⟨z,I,N,e0',_⟩:=fJ.get C S;show(jC a j c 0).ownBlock≠(jC a j E 0).ownBlock;rw[ct,e0'];intro B;have Q:y.gH=z.gH:=apE B;exact Ea q.ji c E y z p I U y.gH y.hIn (Q▸z.hIn)
 ·obtain⟨y,p,x,ct,_⟩:=fJ.get C D
  change(jC a j c 0).ownBlock=some n at v;rw[ct]at v;exact .inr (.inr (.inr ⟨y,x,(apE v).symm⟩))
 ·rcases v with rfl|p|p|⟨y,x,rfl⟩
  ·exact aI
  ·exact(aoT q.at'.hq n p).2
  ·exact(aoT q.at'.fx n p).2
  ·exact(aoT (q.ints y.gH (api.2 ⟨y,x,y.hIn⟩)) _ rfl).2
 ·obtain⟨y,p,x,_,aj,_⟩:=fJ.get C D
  show jA 0 e (jC a j c 1) [];rw[aj];exact ao9 _ _ _ _
 ·obtain⟨y,p,x,_,_,B,_⟩:=fJ.get C D
  show kJ 0 e (jC a j c 2) _;rw[B];exact aam (q.b9 y x)
 ·obtain⟨y,p,x,_,_,_,Q⟩:=fJ.get C D
  show e.ownsRow 0 _ 1 (jC a j c 3) a ((List.range a).map (wU a j c));rw[Q];have F:=gC (q.cw y x).1 (aoR _);unfold xy at F;rw[aoU,(q.cw y x).2.1,aao]at F;have iJ:=aan (l:=y.hR) (f:=hQ a) (g:=wU a j c) (fun d g W=>by simp only[wU,p,W]);rw[(q.cw y x).2.1]at iJ;rw[iJ];exact F
 ·obtain⟨y,g,p,x,jl,P,B⟩:=fJ.Jd C eh D W
  show kJ 0 e (wU a j c d) _;rw[B];exact aam ((q.cw y x).2.2 g P)
 ·have F:=gC q.at'.cl (aoR _)
  unfold xy at F;rw[aoU,Y,aao]at F;have iJ:=aan (l:=i) (f:=hQ a) (g:=yu a i) (fun d g W=>by simp only[yu,W]);rw[Y]at iJ;show e.ownsRow 0 _ 1 w a ((List.range a).map (yu a i));rw[iJ];exact F
 ·obtain⟨g,p,qu,B⟩:=fJ.MT Y L
  show e.ownsRow 0 _ 2 (yu a i r) a ((List.range a).flatMap fun _=>[Value.bool false,z6]);rw[B];exact gC (q.hl g qu) (aoR _)
 ·obtain⟨y,p,x,_,aj,_⟩:=fJ.get C D
  change(jC a j c 1).ownBlock=some n at v;rw[aj]at v;cases v
 ·obtain⟨y,p,x,_,_,B,_⟩:=fJ.get C D
  change(jC a j c 2).ownBlock=some n at v;rw[B]at v;exact q.Je (q.b9 y x) (by decide) (by decide) (by decide) v (.inr fun z N=>by obtain rfl:=apE v;exact Oa p z N)
 ·obtain⟨y,p,x,_,_,_,Q⟩:=fJ.get C D
  change(jC a j c 3).ownBlock=some n at v;rw[Q]at v;exact q.Je (q.cw y x).1 (by decide) (by decide) (by decide) v (.inl (by decide))
 ·obtain⟨y,g,p,x,jl,P,B⟩:=fJ.Jd C eh D W
  change(wU a j c d).ownBlock=some n at v;rw[B]at v;exact q.Je ((q.cw y x).2.2 g P) (by decide) (by decide) (by decide) v (.inr fun z N=>by obtain rfl:=apE v;exact KA p _ P z N)
 ·exact q.Je q.at'.cl (by decide) (by decide) (by decide) v (.inl (by decide))
 ·obtain⟨g,p,qu,B⟩:=fJ.MT Y L
  change(yu a i r).ownBlock=some n at v;rw[B]at v;exact q.Je (q.hl g qu) (by decide) (by decide) (by decide) v (.inl (by decide))
 ·intro c E F S U n v
  obtain⟨y,p,x,_,aj,_⟩:=fJ.get C F;change(jC a j c 1).ownBlock=some n at v;rw[aj]at v;cases v
 ·intro c d E ca F S ak aL U n v M
  obtain⟨y,g,p,x,jl,P,B⟩:=fJ.Jd C eh F S;obtain⟨z,g',I,N,aks,akt,X⟩:=fJ.Jd C eh ak aL;change(wU a j c d).ownBlock=some n at v;change(wU a j E ca).ownBlock=some n at M;rw[B]at v;rw[X]at M;obtain rfl:=apE v;obtain rfl:=apE M;by_cases R:c=E
  ·subst R
   obtain rfl:=apE (p.symm.trans I);have hdd:d≠ca:=U.elim (fun q=>absurd rfl q) id;exact hdd ((List.getElem?_inj (by rw[eh y x];exact S) (dy.qq (MU y x))).1 (jl.trans aks.symm))
  ·exact Ea q.ji c E y z p I R _ (dy.MS P) (dy.MS akt)
 ·intro c E F S U n v M
  obtain⟨y,p,x,_,_,B,_⟩:=fJ.get C F;obtain⟨z,I,N,_,_,X,_⟩:=fJ.get C S;change(jC a j c 2).ownBlock=some n at v;change(jC a j E 2).ownBlock=some n at M;rw[B]at v;rw[X]at M;obtain rfl:=apE v;have Q:z.j5=y.j5:=apE M;exact Ea q.ji c E y z p I U _ y.MR (Q▸z.MR)
 ·intro c d E F S ak n v M
  obtain⟨y,g,p,x,jl,P,B⟩:=fJ.Jd C eh F S;obtain⟨z,I,N,_,_,X,_⟩:=fJ.get C ak;change(wU a j c d).ownBlock=some n at v;change(jC a j E 2).ownBlock=some n at M;rw[B]at v;rw[X]at M;obtain rfl:=apE v;have Q:z.j5=g:=apE M;by_cases R:c=E
  ·subst R
   obtain rfl:=apE (p.symm.trans I);exact dy.aot (MU y x) (Q▸P)
  ·exact Ea q.ji c E y z p I R _ (dy.MS P) (Q▸z.MR)
 ·intro r t L ar U n v M
  obtain⟨g,p,qu,B⟩:=fJ.MT Y L;obtain⟨g',I,anQ,X⟩:=fJ.MT Y ar;change(yu a i r).ownBlock=some n at v;change(yu a i t).ownBlock=some n at M;rw[B]at v;rw[X]at M;obtain rfl:=apE v;have Q:g'=g:=apE M;exact U ((List.getElem?_inj (by omega) q.MN).1 (p.trans (by rw[I,Q])))
theorem aku(N s:Nat)(f:1<=N)(d:N<=4)(g:1<=s)(h:s<=50)(w:World):
  O 93 #[A N,A s] w fun e c=>J w c/\∃r F L x,e=.returned (.tuple #[Z r,A 0])/\da c r F L (fun _=>False) N Sf x/\∀k,F k\/L k->w.heap.size<=k:=
 (akn N s f d g h w).mono fun e c ⟨r,n,o,p,q,t,i,a,j,l⟩=>⟨a.at'.below,r,_,_,_,i,a.akr j l d,fun k b=>by
  rcases b with b|b
  ·rcases b with rfl|e|e|⟨y,m,rfl⟩
   ·exact a.at'.hw
   ·exact(aoT a.at'.hq k e).1
   ·exact(aoT a.at'.fx k e).1
   ·exact(aoT (a.ints y.gH (api.2 ⟨y,m,y.hIn⟩)) _ rfl).1
  ·exact b.1.1⟩
theorem Sh{c b:Int}(h:¬vu a c b):¬Rj a c b:=by
 rintro⟨⟨d,e⟩,⟨f,g⟩,i⟩;exact h ⟨c.toNat,b.toNat,by omega,by omega,by omega,by omega,by omega⟩
theorem akv(h:da e a m r u b d q)(c f:Int)(i:¬vu b c f):O 113 #[Z a,A c,A f] e fun g j=>g=.returned (A 9)/\j=e:=by
 have k:=aa (Rk h.cx.room c f (Sh i));clear h i;go_enter func113,ntmps113;go_wp2_with fail
 refine k.o.mono ?_;rintro g l ⟨rfl,rfl⟩;go_wp2;go_ret
 exact⟨rfl,rfl⟩
theorem akw(h:da e a m r u b d q)(c f:Int)(i:¬vu b c f):O 114 #[Z a,A c,A f] e fun g j=>g=.returned (A 9)/\j=e:=by
 have k:=aa (Rk h.cx.room c f (Sh i));clear h i;go_enter func114,ntmps114;go_wp2_with fail
 refine k.o.mono ?_;rintro g l ⟨rfl,rfl⟩;go_wp2;go_ret
 exact⟨rfl,rfl⟩
theorem akx(h:da e a m r u b d q)(c f:Int)(i:¬vu b c f):O 116 #[Z a,A c,A f] e fun g j=>g=.returned (.tuple #[A 0,A 9])/\j=e:=by
 have k:=aa (Rk h.cx.room c f (Sh i));clear h i;go_enter func116,ntmps116;go_wp2_with fail
 refine k.o.mono ?_;rintro g l ⟨rfl,rfl⟩;go_wp2;go_ret2
 exact⟨rfl,rfl⟩
end Go.Proofs.YtnkpogjiiohapaaGreatDoor
