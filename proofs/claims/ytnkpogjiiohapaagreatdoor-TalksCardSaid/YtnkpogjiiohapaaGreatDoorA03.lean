/- Our own text. -/
import Derived.Test.YtnkpogjiiohapaaGreatDoorA02
set_option linter.unusedSimpArgs false
set_option linter.unusedVariables false
set_option maxRecDepth 1000000
set_option maxHeartbeats 1600000
namespace Go.Proofs.YtnkpogjiiohapaaGreatDoor
open Go.RowKit Tryz
variable {a d e h m n:Nat}{b j l q u:World}{f:List bD}{i:Array Value}{k F:Value}{r:ByteArray}{s:List dA}{v:Act->World->Prop}{w:Array Oper}{y:Bool}{z:Exit->Act->World->Prop}{B:List cE}{C:PId}{D:Prop}{E:TypeId}
def iT (w:World) (v a:Value):Prop:=a.ownBlock=v.ownBlock\/∀k,a.ownBlock=some k->w.heap.size<=k
theorem Nz{P:Program}(w:World)(base:Nat)(t f e:TypeId)(i:TypeInfo)(z:Value)(size bytes:Nat)(s:P.underlying t=some (.slice e))(x:P.info? e=some i)(C:i.zero=some z)(I:i.size=size)(L:i.bytes=bytes)(U:z.cells.size=size)(W:0<size)(v:Value)(n:Nat)(h:List Value)(y:w.ownsRow base e size v n h)(a:Addr)(m c:Nat)(b:List Value)(l:b.length=m*size)(B:∀j u,b[j]?=some u->w.cell? (a.add j)=some u)(M:∀u∈b,u.oneCell'=true)(N:n+m<=maxLen)(D:(n+m)*bytes<=140737488355328)(X:base<=w.heap.size):
  ∃o p,(Builtin.append_ #[t,t] f #[v,.slice (some a) m c]).run P w=.ok o p/\p.ownsRow base e size o (n+m) (h++b)/\w.grownBy p v.ownBlock/\iT w v o:=by
 obtain⟨o,p,d,Y,ah,yD⟩:=run_append_own (P:=P) w base t f e i z size bytes s x C I L U W v n h y a m c b l B M N D X;refine⟨o,p,d,Y,ah,?_⟩;have abr:n+m<=9223372036854775807:=by simp only[maxLen]at N;omega
 subst I;subst L;rcases y.2 with⟨rfl,rfl⟩|⟨g,E,Q,rfl,J0,oa,J1,dh,gv,Tj⟩
 ·by_cases hm:m=0
  ·exact .inl (by rw[yD.2 ⟨rfl,hm⟩])
  ·have q:=run_append_nil (P:=P) w t f e i z s x C a m c b l B (by omega) (by omega) (by have ab:=D;simp only[apF]at ab;omega)
   rw[q]at d;injection d with r R;subst r;exact .inr fun k F=>by simp[Value.ownBlock]at F;omega
 ·by_cases S:n+m<=E
  ·have nc:n*i.size+b.length<=Q.size:=by rw[l,gv,<-apV];exact apJ _ S
   have q:=run_append_room (P:=P) w t f e i s x g n E Q oa a m c b l B M S nc;rw[q]at d;injection d with r R;subst r;exact .inl rfl
  ·have holds:∀j u,h[j]?=some u->w.cell? (((H g):Addr).add j)=some u:=y.cells (g:=g) rfl
   have q:=run_append_grow (P:=P) w t f e i z s x C (H g) n E h y.1 holds a m c b l B (by omega) (by omega) (growslice_fits (by omega) D);rw[q]at d;injection d with r R;subst r;exact .inr fun k F=>by simp[Value.ownBlock]at F;omega
theorem xi {α:Type} (f:α->List Value) (size bytes:Nat) (t e:TypeId) (d:Value) (p:(prog.info? e).map (fun i=>(i.zero,i.size,i.bytes))=some (some d,size,bytes))
  (q:prog.underlying t=some (.slice e)) (r:d.cells.size=size) (C:0<size) (E:∀x,(f x).length=size)
  {n:Array Oper} {o:Oper} {a:Act} {w:World}
  (F:o.guard=none) (s x:Operand) (I:o.op=.call {callee:=.builtin .append,args:= #[s,x],argTypes:= #[t,t]}) (B:Nat) (b:Value) (l:List α) (L:a.eval s=b)
  (M:w.ownsRow B e size b l.length (l.flatMap f)) (g c:Nat) (y:α) (N:a.eval x=.slice (some (H g)) 1 c)
  (Q:∀j u,(f y)[j]?=some u->w.cell? (K g j)=some u) (R:∀u∈f y,u.oneCell'=true) (S:(l.length+1)*bytes<=140737488355328) (tC:l.length<maxLen) (U:B<=w.heap.size)
  (h:∀k m,m.ownsRow B e size k (l.length+1) ((l++[y]).flatMap f)->w.grownBy m b.ownBlock->iT w b k->v (a.put o.dst k) m):
  if Region.wanted o (yielded n a.tmps)=true then Oper.wp prog o a w v z else D:=by
 have W:Region.wanted o (yielded n a.tmps)=true:=by simp[Region.wanted,F]
 rw[if_pos W];obtain⟨i,X,Y,hsz,eW⟩:=info_parts p;obtain⟨k,m,aI,h2,ak,aL⟩:=Nz (P:=prog) w B t o.type e i d size bytes q X Y hsz eW r C b l.length (l.flatMap f) M (H g) 1 c (f y) (by rw[E];simp)
  (fun j u hu=>by
   have :((H g):Addr).add j=(K g j):=by unfold Addr.add;split <;>simp_all
   rw[this];exact Q j u hu) R (by omega) S U
 unfold Oper.wp execOp;simp only[I,resolve,invoke,builtin,apk,apZ,apq,aqL,apb,apU,L,N,aI];exact h k m (by simpa using h2) ak aL
theorem Tk{w}(h:k1 w k B)(d:∀(g:Nat) (a:Array Value),w.heap[g]?=some (.cells a 243 (0,0))->b.heap[g]?=w.heap[g]?):k1 b k B:=by
 refine⟨h.1,?_⟩;rcases h.2 with e|⟨g,f,a,i,j,c,rest⟩
 ·exact .inl e
 ·exact .inr ⟨g,f,a,i,j,by rw[d g a c];exact c,rest⟩
theorem bz{w:World}{g:Nat}{c:Array Value}{b:TypeId}{f d:Nat×Nat}(h:w.heap[g]?=some (.cells i E f))(a:w.heap[g]?=some (.cells c b d)):E=b:=by
 rw[h]at a;injection a with a;injection a
theorem bt{w:World}{base:Nat}{size:Nat}{v:Value}{e:List Value}(h:w.ownsRow base E size v a e){g:Nat}(b:v.ownBlock=some g):∃d,w.heap[g]?=some (.cells d E (0,0)):=by
 rcases h.2 with⟨rfl,_⟩|⟨i,c,d,rfl,_,f,_⟩
 ·simp[Value.ownBlock]at b
 ·simp[Value.ownBlock]at b;subst b;exact⟨d,f⟩
theorem kn.form(g:kn d b (.slice (some (H e)) a h) f):b.ownsRow d 269 4 (.slice (some (H e)) a h) a (f.flatMap gZ):=by
 obtain⟨j,c,i,_⟩:=bp g;injection i with _ i _;unfold kn at g;rw[<-i]at g;exact g
structure Made (B:Nat) (w w1 W w2 w3:World) (go b6:Nat) (cj:Array Value) (v:Value) (l:List bD) (g2 cm bd:Nat) (key:ByteArray):Prop where
 c9:w.heap[go]?=some (.cells cj 272 (0,0))
 e8:cj[b6+3]?=some v
 h:hy B w v l
 aq:J w w1
 fj:J w1 W
 e1:W.grownBy w2 v.ownBlock
 fv:kn B w2 (.slice (some (H g2)) cm bd) (l++[hC key (0,0)])
 lN:cm=l.length+1
 c6:iT W v (.slice (some (H g2)) cm bd)
 fM:w3=w2.setCell (K go (b6+3)) (.slice (some (H g2)) cm bd)
theorem Made.br{c v l f g k}(m:Made d b j q u c a n i v l f g k r):some a≠v.ownBlock:=by
 intro e;obtain⟨p,o⟩:=bt m.h.1 e.symm;exact absurd (bz m.c9 o) (by decide)
theorem Made.xj{w}(c:Made a w j b l q d e i k f h m n r):J w b:=c.aq.trans (c.fj.mono c.aq.size)
theorem Made.lt{w W v l key}(c:Made d w b W j q a e i v l h m n key):a<w.heap.size:=(ao1.1 c.c9).1
theorem Made.go2{w}(c:Made d w j l b q a e i k f h m n r):b.heap[a]?=some (.cells i 272 (0,0)):=by
 rw[c.e1.block a (aoV c.lt c.xj.size) c.br,c.xj.block a c.lt];exact c.c9
theorem Made.ne{v}(c:Made e b j l q u a h i v f d m n r):a≠d:=by
 intro g;subst g;obtain⟨o,k⟩:=JY c.fv;exact absurd (bz c.go2 k) (by decide)
theorem Made.Tm(c:Made n j l q u b a d i k f e h m r):b.heap[a]?=some (.cells (i.setIfInBounds (d+3) (.slice (some (H e)) h m)) 272 (0,0)):=by
 rw[c.fM];simp[World.setCell,aqw,c.go2]
theorem Made.Tn{w}(g:Made d w l q b j a e i k f h m n r)(c:Nat)(o:c≠a):j.heap[c]?=b.heap[c]?:=by
 rw[g.fM];exact apj _ _ _ _ o
theorem Made.abt(c:Made a l q u b j d e i k f h m n r):j.heap.size=b.heap.size:=by rw[c.fM];simp[World.setCell]
theorem Made.old{w v key}(c:Made d w l b q j a e i v f h m n key)(k:Nat)(g:k<b.heap.size)(o:k≠a)(p:some k≠v.ownBlock):j.heap[k]?=b.heap[k]?:=by
 rw[c.Tn k o,c.e1.block k g p]
theorem Made.NA(c:Made a j l q u b m n i k f d e h r):kn a b (.slice (some (H d)) e h) (f++[hC r (0,0)]):=by
 have p:=c.fv;refine⟨p.1,?_⟩;rcases p.2 with⟨o,_⟩|⟨g,s,t,o,v,w,rest⟩
 ·injection o with o;cases o
 ·refine .inr ⟨g,s,t,o,v,?_,rest⟩
  injection o with o _ _;injection o with o;injection o with o;subst o;rw[c.Tn _ c.ne.symm];exact w
theorem Made.abu{w s}(c:Made a w j l q b d e i F f m n s r)(t:k1 w k B):k1 b k B:=by
 refine Tk (t.af c.xj) fun g v p=>c.old g (ao1.1 p).1 ?_ ?_
 ·intro o;subst o
  have :=c.xj.block g c.lt;rw[this]at p;exact absurd (bz c.c9 p) (by decide)
 ·intro o
  obtain⟨x,u⟩:=bt (c5 c.h.1 c.xj) o.symm;exact absurd (bz u p) (by decide)
theorem Made.Ev{w p s t u}(c:Made m w b j q l n p i F f s t u r)(o:b.cell? (K d e)=some k)(y:w.heap.size<=d):l.cell? (K d e)=some k:=by
 have v:=ao4 b _ o;have x:=af c.fj o;have :l.heap[d]?=j.heap[d]?:=c.old d (aoV v c.fj.size) (by have :=c.lt;omega) (fun g=>by have :=(aoT c.h.1 d g.symm).2;omega);rw[apW (w:=j) (a:=(K d e)) this];exact x
theorem Made.abv(c:Made n j l q u b d a i k f e h m r):b.cell? (K d (a+3))=some (.slice (some (H e)) h m):=by
 have g:a+3<i.size:=(ao1.1 c.e8).1;simp[World.cell?,c.Tm,g]
theorem Made.abw{c}(g:Made e j l q u b h m i k c a d n r):b.cell? (K a (c.length*4+3))=some (.slice none 0 0):=by
 have o:=g.NA;unfold kn at o;rw[show(c++[hC r (0,0)]).length=d by rw[g.lN];simp]at o;have :=iw (f:=gZ) (fun _=>rfl) o (by rw[g.lN];simp) c.length (by simp) 3 (by omega);rw[this];simp[gZ,hC]
theorem Made.upd{I v}(c:Made e j u l I q d h i v f a m n r)(t:J q b)(L:k1 b F B):
  na e j (b.setCell (K a (f.length*4+3)) F) d h i v (f++[⟨r,(0,0),F,B⟩]):=by
 have y:kn e b (.slice (some (H a)) m n) (f++[hC r (0,0)]):=c5 c.NA t;obtain⟨U,z⟩:=JY y;have C:=Th y (by rw[c.lN];simp) (k:=f.length) (by simp) F B;have p:(f++[hC r (0,0)]).set f.length ⟨(f++[hC r (0,0)])[f.length].key,(f++[hC r (0,0)])[f.length].id,F,B⟩=f++[⟨r,(0,0),F,B⟩]:=by
  simp[hC]
 rw[p]at C;have D:∀g,g≠a->(b.setCell (K a (f.length*4+3)) F).heap[g]?=b.heap[g]?:=fun g x=>apj _ _ _ _ x
 have M:=c.abt;have W:=c.e1.size;have N:=c.xj.size;refine⟨⟨_,⟨C,?_⟩,?_,?_⟩,?_,?_,?_,?_,fun g x P E=> ?_⟩
 ·intro s w
  rcases aoZ.1 w with w|w
  ·exact JZ ((c.abu (c.h.2 s w)).af t) z (by decide) F
  ·simp at w;subst w;exact JZ L z (by decide) F
 ·rw[D d c.ne,t.block d (by rw[M];have :=c.lt;omega)];exact c.Tm
 ·rcases c.c6 with o|o
  ·exact .inl o
  ·exact .inr fun k Q=>by have :=o k Q;omega
 ·show b.os=j.os
  rw[t.os,c.fM];exact c.e1.os.trans c.xj.os
 ·show b.tape=j.tape
  rw[t.tape,c.fM];exact c.e1.tape.trans c.xj.tape
 ·show b.output=j.output
  rw[t.output,c.fM];exact c.e1.output.trans c.xj.output
 ·have :=t.size;simp[World.setCell];omega
 ·have R:g<l.heap.size:=aoV x N
  have S:g≠a:=by
   rcases c.c6 with o|o
   ·intro p;subst p;exact E (by rw[<-o];rfl)
   ·intro p;subst p;have :=o g rfl;omega
  rw[D g S,t.block g (by omega),c.old g R P E,c.xj.block g x]
theorem abx{key:ByteArray}:∀j u,(gZ (hC key (0,0)))[j]?=some u->(b.alloc (.cells #[.string key,A 0,A 0,.slice none 0 0] 269)).cell? (V b j)=some u:=by
 intro j u a;rw[arj _ _ _ _ rfl]
 match j with
 |0=>simpa[gZ,hC]using a
 |1=>simpa[gZ,hC]using a
 |2=>simpa[gZ,hC]using a
 |3=>simpa[gZ,hC]using a
 |j+4=>simp[gZ,hC]at a
theorem aby{key:ByteArray}:∀u∈gZ (hC key C),u.oneCell'=true:=by
 intro u a;simp[hC,gZ]at a;rcases a with rfl|rfl|rfl|rfl<;>rfl
theorem abz{o:Oper}{a:Act}(i:o.guard=none)(s x:Operand)(k:o.op=.call {callee:=.builtin .append,args:= #[s,x],argTypes:= #[270,270]})(B:Nat)(d:Value)(l:List bD)(m:a.eval s=d)(n:kn B b d l)(g c:Nat)(y:bD)(p:a.eval x=.slice (some (H g)) 1 c)(q:∀j u,(gZ y)[j]?=some u->b.cell? (K g j)=some u)(r:∀u∈gZ y,u.oneCell'=true)(I:l.length<10000000)(t:B<=b.heap.size)(h:∀e f,kn B f e (l++[y])->b.grownBy f d.ownBlock->iT b d e->v (a.put o.dst e) f):
  if Region.wanted o (yielded w a.tmps)=true then Oper.wp prog o a b v z else D:=
 xi gZ 4 56 270 269 (.agg #[.string ⟨#[]⟩,A 0,A 0,.slice none 0 0]) (by kernel_rfl) underlying270 rfl (by omega) (fun _=>rfl)
  i s x k B d l m n g c y p q r (by omega) (by unfold maxLen;omega) t (fun e f C E F=>h e f (by unfold kn;simpa using C) E F)
theorem abA(B b c:Nat)(E:Array Value)(v:Value)(l:List bD)(nE:l.length<1000000)(s t kind dQ dP d P eN eB n u j:Int)(aO:Bool)(key:ByteArray)(dq:Value)(Q:List PId)(w:World)(x:w.heap[b]?=some (.cells E 272 (0,0)))(R:E[c+3]?=some v)(bo:E[c+2]?=some (.bool false))(h:hy B w v l)(hB:B<=w.heap.size)(S:er w dq Q)(sl:cK (hz key (d,P)) l= -1):
  O 215 #[.pointer (some (K b c)),.agg #[A s,A t,A kind,.bool aO,A dQ,A dP,.string key,A d,A P,A eN,A eB,A n,A u,A j,dq]] w fun e w'=>
   e=.returned (.tuple #[])/\∃ic,na B w w' b c E v (l++[⟨key,(0,0),ic,hb Q [] kind ⟨(s,t),n,(u,j)⟩⟩]):=by
 obtain⟨a,y,rfl,jk,dh,fu⟩:=bp h.1;unfold maxLen at dh;obtain⟨jn,co,rfl,yB,hom,_⟩:=bp S;have m:w.cell? (K b (c+3))=some (.slice a l.length y):=by simp[World.cell?,x,R]
 have U:w.cell? (K b (c+2))=some (.bool false):=by simp[World.cell?,x,bo]
 have F:w.frozen? (K b (c+3))=false:=by simp[World.frozen?,x]
 clear fu;have ko:=aa m;have oC:=aa U;have HFZ:=aa F;have z:=aa h;clear h;have nC:=aa x;clear x;have yA:=aa R;clear R;have tE:=aa S;clear S;have cP:b<w.heap.size:=ao4 w _ m;have br:some b≠(Value.slice a l.length y).ownBlock:=by
  intro e;cases a with
  |none=>simp[Value.ownBlock]at e
  |some Gw=>
   obtain⟨I,rfl⟩:∃I,Gw=(H I):=by
    rcases z.o.1.2 with⟨d,_⟩|⟨I,b2,cur,d,_⟩
    ·injection d with d;cases d
    ·injection d with d;injection d with d;exact⟨I,d⟩
   simp[Value.ownBlock]at e;subst e;obtain⟨cur,q⟩:=JY z.o.1;rw[nC.o]at q;injection q with q;injection q with _ q _;exact absurd q (by decide)
 have kp:=aa br;clear br;go_enter func215,ntmps215;go_wp2_with (go_at_call 172;go_must (refine(Ca B b c (.slice a l.length y) l key d P _ ?au ?ab).mono ?_;(case au=>exact af ((aoQ w.heap.size w).alloc (aoP _) _) ko.o);(case ab=>exact z.o.af ((aoQ w.heap.size w).alloc (aoP _) _));rintro e i ⟨rfl,g⟩;have r:J w i:=((aoQ w.heap.size w).alloc (aoP _) _).trans (g.mono (by simp));have sn:=aa (af (a:=(V w 0)) (v:=A s) g (by simp[go_sem]));have Cd:=aa (af (a:=(V w 1)) (v:=A t) g (by simp[go_sem]));have Ce:=aa (af (a:=(V w 2)) (v:=A kind) g (by simp[go_sem]));have Cf:=aa (af (a:=(V w 11)) (v:=A n) g (by simp[go_sem]));have Cg:=aa (af (a:=(V w 12)) (v:=A u) g (by simp[go_sem]));have Ch:=aa (af (a:=(V w 13)) (v:=A j) g (by simp[go_sem]));have Ep:=aa (af (a:=(V w 14)) (v:=.slice jn Q.length co) g (by simp[go_sem]));have To:=g;clear g;replace m:=af r ko.o;replace U:=af r oC.o;replace F:=(r.frozen (p:=(K b (c+3))) cP).trans HFZ.o;have GC:=aa (af (a:=(V w 6)) (v:=.string key) To (by simp[go_sem]));have hz1:=r.size;have ax:=aa (r);clear r))
 have Cj:=GC.o;have iz:w.heap.size<i.heap.size:=ao4 i _ Cj;clear To;have abB:b<i.heap.size:=ao4 i _ m;go_region_law (refine abz rfl (.tmp 29) (.tmp 33) rfl B (.slice a l.length y) l (by simp[Act.eval,Act.put]) ?h1 i.heap.size 1 (hC key (0,0)) (by simp[Act.eval,Act.put]) ?h2 ?ak ?aL ?bW ?_;(case h1=>exact((z.o.af ax.o).1).alloc _);(case h2=>exact abx);(case ak=>exact aby);(case aL=>omega);(case bW=>simp;omega);intro j W X L lN;obtain⟨a2,bd,jR,_,_,Y⟩:=bp X;rw[aoW]at jR;obtain⟨C,rfl⟩:=Y 0 (by simp);subst jR;have N:J i (i.alloc (.cells #[.string key,A 0,A 0,.slice none 0 0] 269)).drew:=((aoQ _ i).alloc (aoP _) _).drew;have fp:W.cell? (K b (c+3))=some (.slice a l.length y):=L.cell (af N m) kp.o;have Y:W.frozen? (K b (c+3))=false:=(arn (a:=(K b (c+3))) (L.block b (by simp;omega) kp.o)).trans ((N.frozen (p:=(K b (c+3))) (by show b<_;omega)).trans F);have dD:=aa L;clear L;have rr:=aa lN;clear lN;have mb:=aa X;clear X;have dr:=aa N;clear N)
 all_goals
  obtain⟨f,fM⟩:∃f,f=W.setCell (K b (c+3)) (.slice (some (H C)) (l.length+1) bd):=⟨_,rfl⟩;rw[<-fM];have M:=Made.mk (key:=key) nC.o yA.o z.o ax.o dr.o dD.o mb.o rfl rr.o fM;clear fM fp Y;have nF:=M.abv;have bV:=M.abw;have kM:=M.Ev Ce.o (aoP _);have eO:=M.Ev sn.o (aoP _);have fL:=M.Ev Cd.o (aoP _);have Es:=M.Ev Cf.o (aoP _);have Et:=M.Ev Cg.o (aoP _);have Eu:=M.Ev Ch.o (aoP _);have amO:w.heap.size<f.heap.size:=ao4 f _ kM;have Ew:b<f.heap.size:=ao4 f _ nF;have abC:C<f.heap.size:=ao4 f _ bV;have NB:f.frozen? (K C (l.length*4+3))=false:=aq4 M.NA.form _;have bG:=aa M;clear M;clear m U F Cj;go_wp2;refine wp_loop_rounds 1 ?_;rw[rounds_succ];by_cases hp:kind=3
  ·subst hp
   go_wp2_with (at_builtin;go_must (refine Nw rfl (.tmp 81) (.tmp 87) rfl f.heap.size (.slice none 0 0) [] rfl ?h1 f.heap.size 1 ⟨(s,t),n,(u,j)⟩ rfl ?h2 ?aL ?bW ?_;(case h1=>exact ao9 _ _ _ _);(case h2=>exact Nv (by simp[go_sem]) (by simp[go_sem]) (by simp[go_sem]) (by simp[go_sem]) (by simp[go_sem]));(case aL=>simp);(case bW=>simp);intro v' w4 uA dB;have D:J f w4:=((aoQ _ f).alloc (aoP _) _).grown dB (by simp) (fun k hk=>by cases hk);clear dB;obtain⟨a3,GB,jI,_,_,_⟩:=bp uA;generalize([]++[(⟨(s,t),n,(u,j)⟩:cE)]).length=nD at jI;subst jI;replace nF:=af D nF;replace bV:=af D bV;have vH:w4.frozen? (K C (l.length*4+3))=false:=(D.frozen (p:=(K C (l.length*4+3))) abC).trans NB;have fw:=aa D;clear D;have e0:=aa uA;clear uA))
   go_end0
   exact⟨rfl,_,bG.o.upd fw.o (by have :=e0.o;unfold hb;rw[if_pos rfl];exact gC this (aoR _))⟩
  ·go_wp2
   go_end0
   exact⟨rfl,_,bG.o.upd (aoQ _ _) (by unfold hb;rw[if_neg hp];exact Nt _)⟩
structure bU where
 key:ByteArray
 id:PId
 ad:List cE
structure ba where
 id:PId
 list:Bool
 ss:List bU
def bD.p (s:bD):bU:=⟨s.key,s.id,s.ad⟩
def dA.p (o:dA):ba:=⟨o.id,o.list,o.ss.map bD.p⟩
structure fq (B t:Nat) (w:World) (d:Nat) (v:Value) (os:List dA):Prop where
 ai:w.heap[d]?=some (.cells #[v] 277 (0,0))
 hB:B<=d
 ae:xa B w v os
 hn:os.length<=t+1
 ad:∀o∈os,o.ss.length<=t/\∀s∈o.ss,s.ad.length<=t
theorem fq.cell{w v}(h:fq d e w a v s):w.cell? (H a)=some v:=by simp[World.cell?,h.ai]
theorem fq.Ck(h:fq d e b a k s):b.frozen? (H a)=false:=by simp[World.frozen?,h.ai]
theorem fq.lt{t w v}(h:fq d t w a v s):a<w.heap.size:=(ao1.1 h.ai).1
theorem fq.af{B t w d v a}{w':World}(h:fq B t w d v a)(b:J w w'):fq B t w' d v a:=
 ⟨by rw[b.block d h.lt];exact h.ai,h.hB,h.ae.af b,h.hn,h.ad⟩
theorem fq.mono{w v}(b:fq a d w h v s)(i:d<=e):fq a e w h v s:=
 ⟨b.ai,b.hB,b.ae,by have :=b.hn;omega,fun o f=>⟨by have :=(b.ad o f).1;omega,fun c g=>by have :=(b.ad o f).2 c g;omega⟩⟩
theorem abD{l:List dA}{k:Nat}(a:k<l.length)(b:Value)(c:List bD):
  (l.set k ⟨l[k].id,l[k].list,b,c⟩).flatMap jG=(l.flatMap jG).set (k*4+3) b:=by
 induction l generalizing k with
 |nil=>simp at a
 |cons s l ih=>
  cases k with
  |zero=>simp[jG,ape]
  |succ k=>
   have :=ih (k:=k) (by simpa using a);simp only[aqM,ape,ark];rw[this];have e:(k+1)*4+3=(jG s).length+(k*4+3):=by simp[jG];omega
   rw[e,List.set_append_right _ _ (by omega)];congr 1;congr 1;omega
theorem fq.row{w v}(h:fq a d w e v s){k:Nat}(j:k<s.length):
  ∃f c g,v=.slice (some (H f)) s.length c/\a<=f/\w.heap[f]?=some (.cells g 272 (0,0))/\s.length<=c/\c<=maxLen/\g.size=c*4/\g.toList.take (s.length*4)=s.flatMap jG/\
   g[k*4+2]?=some (.bool s[k].list)/\g[k*4+3]?=some s[k].gY:=by
 rcases h.ae.1.2 with⟨_,b⟩|⟨f,c,l,m,n,o,p,q,r,i⟩
 ·omega
 ·refine⟨f,c,l,m,n,o,p,q,r,i,?_,?_⟩
  ·have :=Nf jG 4 (fun _=>rfl) s k 2 j (by omega)
   rw[<-i,aql,if_pos (by omega)]at this;simpa[jG]using this
  ·have :=Nf jG 4 (fun _=>rfl) s k 3 j (by omega)
   rw[<-i,aql,if_pos (by omega)]at this;simpa[jG]using this
theorem J2{w}(h:hy a w k f)(d:∀g,k.ownBlock=some g->b.heap[g]?=w.heap[g]?)(e:∀(g:Nat) (c:Array Value),w.heap[g]?=some (.cells c 243 (0,0))->b.heap[g]?=w.heap[g]?):hy a b k f:=by
 refine⟨⟨h.1.1,?_⟩,fun s i=>Tk (h.2 s i) e⟩;rcases h.1.2 with j|⟨g,l,c,rfl,m,n,rest⟩
 ·exact .inl j
 ·exact .inr ⟨g,l,c,rfl,m,by rw[d g rfl];exact n,rest⟩
theorem abE(u:a<s.length)(l:∀(i j:Nat) (c:i<s.length) (h:j<s.length),i≠j->s[i].gY.ownBlock=none\/s[i].gY.ownBlock≠s[j].gY.ownBlock)(n:∀o∈s,∀g,o.gY.ownBlock=some g->g<d)(b:k.ownBlock=s[a].gY.ownBlock\/∀g,k.ownBlock=some g->d<=g):
  ∀(i j:Nat) (c:i<(s.set a ⟨s[a].id,s[a].list,k,f⟩).length) (h:j<(s.set a ⟨s[a].id,s[a].list,k,f⟩).length),i≠j->
   (s.set a ⟨s[a].id,s[a].list,k,f⟩)[i].gY.ownBlock=none\/(s.set a ⟨s[a].id,s[a].list,k,f⟩)[i].gY.ownBlock≠(s.set a ⟨s[a].id,s[a].list,k,f⟩)[j].gY.ownBlock:=by
 intro i j c h m;rw[aqx]at c h;by_cases p:a=i
 ·subst p
  rw[List.getElem_set_self,aq5 (by omega)];rcases b with b|b
  ·show k.ownBlock=none\/k.ownBlock≠_
   rw[b];exact l a j c h m
  ·cases q:k.ownBlock with
   |none=>exact .inl rfl
   |some g=>
    right
    intro e;have :=n s[j] (aoY _) g e.symm;have :=b g q;omega
 ·by_cases r:a=j
  ·subst r
   rw[List.getElem_set_self,aq5 (by omega)];rcases b with b|b
   ·show _\/_≠k.ownBlock
    rw[b];exact l i a c h m
   ·cases t:s[i].gY.ownBlock with
    |none=>exact .inl rfl
    |some g=>
     right
     intro e;have :=n s[i] (aoY _) g t;have :=b g (show k.ownBlock=some g from e.symm);omega
  ·rw[aq5 (by omega),aq5 (by omega)]
   exact l i j c h m
structure mc (B:Nat) (w w':World):Prop where
 below:Below B w w'
 types:∀(g:Nat) (c:Array Value) (e:TypeId) (f:Nat×Nat),w.heap[g]?=some (.cells c e f)->e≠277->e≠272->e≠269->w'.heap[g]?=w.heap[g]?
theorem mc.cQ{w w':World}(h:J w w')(b:a<=w.heap.size):mc a w w':=
 ⟨h.mono b,fun g _ _ _ c _ _ _=>h.block g (ao1.1 c).1⟩
theorem mc.trans{B a b c}(h:mc B a b)(k:mc B b c):mc B a c:=
 ⟨h.below.trans k.below,fun g cs e f d i j l=>by
  have m:=h.types g cs e f d i j l;rw[k.types g cs e f (by rw[m];exact d) i j l,m]⟩
theorem mc.row{w w'}(h:mc d w w'){base:Nat}{size:Nat}{v:Value}{b:List Value}(c:w.ownsRow base E size v a b)(f:E≠277)(i:E≠272)(j:E≠269):w'.ownsRow base E size v a b:=by
 refine⟨c.1,?_⟩;rcases c.2 with k|⟨g,l,m,rfl,n,e,rest⟩
 ·exact .inl k
 ·exact .inr ⟨g,l,m,rfl,n,by rw[h.types g _ _ _ e f i j];exact e,rest⟩
theorem fq.upd{v z}(l:fq d h b e v s){k:Nat}(D:k<s.length){cap:Nat}(U:v=.slice (some (H a)) s.length cap)(x:b.heap[a]?=some (.cells i 272 (0,0)))(u:na d b j a (k*4) i s[k].gY z)(W:z.length<=h+1)(X:∀n∈z,n.ad.length<=h+1):
  (∃E,fq d (h+1) j e v (s.set k ⟨s[k].id,s[k].list,E,z⟩))/\mc d b j:=by
 subst U;obtain⟨E,Y,abF,c6⟩:=u.ex;have B:hy d b s[k].gY s[k].ss:=l.ae.2.1 _ (aoY _);have amP:d<=a:=(aoT l.ae.1 a rfl).1;have abG:=l.lt;have abH:e≠a:=by intro m;subst m;exact absurd (bz l.ai x) (by decide)
 have abI:some e≠s[k].gY.ownBlock:=by
  intro m;obtain⟨c,y⟩:=bt B.1 m.symm;exact absurd (bz l.ai y) (by decide)
 have P:∀o∈s,∀g,o.gY.ownBlock=some g->g<b.heap.size:=fun o w g r=>(aoT (l.ae.2.1 o w).1 g r).2
 have Cl:∀(g:Nat) (C:Array Value),b.heap[g]?=some (.cells C 243 (0,0))->j.heap[g]?=b.heap[g]?:=by
  intro g C r;refine u.other g (ao1.1 r).1 ?_ ?_
  ·intro m;subst m;exact absurd (bz x r) (by decide)
  ·intro m;obtain⟨c,y⟩:=bt B.1 m.symm;exact absurd (bz y r) (by decide)
 refine⟨⟨E,?_,l.hB,⟨?_,?_,?_⟩,?_,?_⟩,?_⟩
 ·rw[u.other e abG abH abI];exact l.ai
 ·have h0:=l.ae.1
  rcases h0.2 with⟨t,_⟩|⟨g,c,C,t,ab,r,Q,F,I,aL⟩
  ·injection t with t;cases t
  ·injection t with t _ aw;injection t with t;injection t with t;subst t;subst aw
   have gN:C=i:=by rw[x]at r;injection r with r;injection r with r;exact r.symm
   subst gN;refine⟨?_,.inr ⟨a,cap,_,by rw[aqx],ab,abF,?_,F,?_,?_⟩⟩
   ·rw[qF jG 4 (fun _=>rfl)]
   ·rw[aqx];exact Q
   ·simpa using I
   ·rw[abD D,aqx,Array.toList_setIfInBounds,<-aL,List.take_set]
 ·intro o w
  obtain⟨p,R,rfl⟩:=apl.1 w;rw[aqx]at R;by_cases L:k=p
  ·subst L;rw[List.getElem_set_self];exact Y
  ·rw[aq5 L]
   have S:=l.ae.2.1 s[p] (aoY _);refine J2 S (fun g r=> ?_) Cl;refine u.other g (P _ (aoY _) g r) ?_ ?_
   ·intro m;subst m;obtain⟨c,y⟩:=bt S.1 r;exact absurd (bz x y) (by decide)
   ·intro m
    rcases l.ae.2.2 p k R D (ao5 L) with M|M
    ·rw[M]at r;cases r
    ·exact M (by rw[r,m])
 ·exact abE D l.ae.2.2 P c6
 ·rw[aqx];have :=l.hn;omega
 ·intro o w
  rcases List.mem_or_eq_of_mem_set w with w|rfl
  ·exact⟨by have :=(l.ad o w).1;omega,fun n ad=>by have :=(l.ad o w).2 n ad;omega⟩
  ·exact⟨W,X⟩
 ·refine⟨⟨u.os,u.tape,u.output,u.size,fun q hi=>u.other q (by have :=l.hB;omega) (by omega) (fun m=>by have :=(aoT B.1 q m.symm).1;omega)⟩,fun g c m f r Q F I=>u.other g (ao1.1 r).1 (fun N=> ?_) (fun N=> ?_)⟩
  ·subst N;exact F (bz r x)
  ·obtain⟨b2,b7⟩:=bt B.1 N.symm;exact I (bz r b7)
theorem Ts {α β:Type} (f:α->β) (p:β->Bool) (l:List α):cK p (l.map f)=cK (fun x=>p (f x)) l:=by
 unfold cK;rw[List.findIdx?_map];rfl
def eG (key:ByteArray) (x:PId) (s:bU):Bool:=(s.key.toList==key.toList)&&et s.id.1 s.id.2 x.1 x.2
def me (a:ByteArray) (x:PId):bU:=⟨a,x,[]⟩
theorem J4(a:ByteArray)(x:PId)(l:List bD):cK (eG a x) (l.map bD.p)=cK (hz a x) l:=by
 rw[Ts];rfl
def lr (l:List bU) (n:Nat) (s:bU):List bU:=l.take n++s::l.drop n
def oD (l:List bU) (b x:PId):List bU:=
 if et b.1 b.2 0 0 then lr l 0 (me ⟨#[]⟩ x)
 else if cK (eG ⟨#[]⟩ b) l<0 then l
 else lr l ((cK (eG ⟨#[]⟩ b) l).toNat+1) (me ⟨#[]⟩ x)
theorem Tt(l:List bD)(n:Nat)(a:ByteArray)(x:PId):(rp l n (hC a x)).map bD.p=lr (l.map bD.p) n (me a x):=by
 simp[rp,lr,hC,me,bD.p,aqm,List.map_drop]
theorem abJ(l:List bD)(b x:PId):(vD l b x).map bD.p=oD (l.map bD.p) b x:=by
 unfold vD oD;rw[J4];split
 ·exact Tt _ _ _ _
 ·split
  ·rfl
  ·exact Tt _ _ _ _
theorem Tu{s y:bD}(h:y∈rp f a s):y∈f\/y=s:=by
 unfold rp at h;rw[aoZ,ao3]at h;rcases h with h|h|h
 ·exact .inl (apx h)
 ·exact .inr h
 ·exact .inl (ap0 h)
theorem Tv(l:List bD)(n:Nat)(s:bD):(rp l n s).length=l.length+1:=by
 unfold rp;rw[aoW,apd,ao7,apm];omega
theorem Tw(l:List bD)(b x:PId):(vD l b x).length<=l.length+1/\∀y∈vD l b x,y∈l\/y.ad=[]:=by
 unfold vD;split
 ·exact⟨by rw[Tv];omega,fun y a=>(Tu a).imp id fun e=>by rw[e];rfl⟩
 ·split
  ·exact⟨by omega,fun y a=>.inl a⟩
  ·exact⟨by rw[Tv];omega,fun y a=>(Tu a).imp id fun e=>by rw[e];rfl⟩
theorem abK(B g i:Nat)(j:Array Value)(v:Value)(l:List bD)(b c d f:Int)(w:World)(n:w.heap[g]?=some (.cells j 272 (0,0)))(o:j[i+3]?=some v)(h:hy B w v l)(p:l.length<1000000)(q:B<=w.heap.size):
  O 214 #[.pointer (some (K g i)),.agg #[A b,A c],.agg #[A d,A f]] w fun e s=>
   e=.returned (.tuple #[])/\na B w s g i j v (vD l (b,c) (d,f)):=by
 cases m:et b c 0 0
 ·have y:=yz (hz ⟨#[]⟩ (b,c)) l
  have z:=Cc (hz ⟨#[]⟩ (b,c)) l;by_cases t:cK (hz ⟨#[]⟩ (b,c)) l<0
  ·have e:vD l (b,c) (d,f)=l:=by unfold vD;simp[m,t]
   rw[e];exact abh B g i j v l b c d f w n o h p m (by omega)
  ·obtain⟨k,r⟩:=aqe (a:=cK (hz ⟨#[]⟩ (b,c)) l) (by omega)
   have e:vD l (b,c) (d,f)=rp l (k+1) (hC ⟨#[]⟩ (d,f)):=by unfold vD;simp[m,r];omega
   rw[e];exact abg B g i j v l b c d f k w n o h p q m r
 ·rw[B6]at m
  injection m with u x;subst u;subst x;exact abf B g i j v l d f w n o h p q
def kN (l:List bU) (a:Bool) (key:ByteArray) (x:PId) (old:List PId) (kind:Int) (y:cE):List bU:=
 if cK (eG key x) l<0 then
  if a then l else l++[⟨key,(0,0),hb old [] kind y⟩]
 else l.modify (cK (eG key x) l).toNat fun s=>⟨s.key,s.id,hb old s.ad kind y⟩
theorem abL(B b c:Nat)(d:Array Value)(v:Value)(l:List bD)(C D kind E F i j I L n M N:Int)(P:Bool)(k:ByteArray)(q:Value)(w:World)(f:w.heap[b]?=some (.cells d 272 (0,0)))(m:d[c+3]?=some v)(Q:d[c+2]?=some (.bool true))(h:hy B w v l)(R:∃r no s,q=.slice r no s)(sl:cK (hz k (i,j)) l= -1):
  O 215 #[.pointer (some (K b c)),.agg #[A C,A D,A kind,.bool P,A E,A F,.string k,A i,A j,A I,A L,A n,A M,A N,q]] w fun e S=>
   e=.returned (.tuple #[])/\na B w S b c d v l:=by
 obtain⟨a,t,rfl,jk,dh,U⟩:=bp h.1;obtain⟨r,no,s,rfl⟩:=R;have p:w.cell? (K b (c+3))=some (.slice a l.length t):=by simp[World.cell?,f,m]
 have u:w.cell? (K b (c+2))=some (.bool true):=by simp[World.cell?,f,Q]
 clear U;have x:=aa p;have W:=aa u;have y:=aa h;clear h;have X:=aa f;clear f;have Y:=aa m;clear m;have cP:b<w.heap.size:=ao4 w _ p;go_enter func215,ntmps215;go_wp2_with (go_at_call 172;go_must (refine(Ca B b c (.slice a l.length t) l k i j _ ?au ?ab).mono ?_;(case au=>exact af ((aoQ w.heap.size w).alloc (aoP _) _) x.o);(case ab=>exact y.o.af ((aoQ w.heap.size w).alloc (aoP _) _));rintro e w1 ⟨rfl,z⟩;have g:J w w1:=((aoQ w.heap.size w).alloc (aoP _) _).trans (z.mono (by simp));clear z;replace p:=af g x.o;replace u:=af g W.o;have ax:=aa (g);clear g))
 refine bodyPost_ret (results_none rfl _ _ _) rfl ?_;exact⟨rfl,na.same X.o Y.o y.o ax.o⟩
theorem NF {α:Type} (f:α->α) (l:List α) (k:Nat) (h:k<l.length):l.modify k f=l.set k (f l[k]):=by
 apply ap6;intro j;rw[arc,arf];by_cases e:k=j
 ·subst e;simp[h]
 ·simp[e]
theorem Tx(b:List PId)(a:List cE)(kind:Int)(y:cE):(hb b a kind y).length<=a.length+1:=by
 unfold hb;have :(unnamed b a).length<=a.length:=apK _ _;rw[aoW];split <;>simp <;>omega
theorem abM(B t r g:Nat)(i:Array Value)(v:Value)(l:List bD)(nE:l.length<=t)(z:∀s∈l,s.ad.length<=t)(htt:t<100000)(P:Bool)(j m kind C D c d E F n o q:Int)(I:Bool)(f:ByteArray)(L:Value)(u:List PId)(w:World)(Q:w.heap[r]?=some (.cells i 272 (0,0)))(R:i[g+3]?=some v)(W:i[g+2]?=some (.bool P))(h:hy B w v l)(X:B<=w.heap.size)(S:er w L u):
  O 215 #[.pointer (some (K r g)),.agg #[A j,A m,A kind,.bool I,A C,A D,.string f,A c,A d,A E,A F,A n,A o,A q,L]] w fun e M=>
   e=.returned (.tuple #[])/\∃N,na B w M r g i v N/\N.map bD.p=kN (l.map bD.p) P f (c,d) u kind ⟨(j,m),n,(o,q)⟩/\N.length<=t+1/\∀s∈N,s.ad.length<=t+1:=by
 have aE:=yz (hz f (c,d)) l;have kq:=Cc (hz f (c,d)) l;by_cases U:cK (hz f (c,d)) l<0
 ·cases P with
  |true=>
   obtain⟨jn,co,rfl,_⟩:=bp S;refine(abL B r g i v l j m kind C D c d E F n o q I f _ w Q R W h ⟨_,_,_,rfl⟩ (by omega)).mono fun e M ⟨x,y⟩=>⟨x,l,y,?_,by omega,fun s b=>by have :=z s b;omega⟩
   unfold kN;rw[J4,if_pos U];rfl
  |false=>
   refine(abA B r g i v l (by omega) j m kind C D c d E F n o q I f L u w Q R W h X S (by omega)).mono fun e M ⟨x,ic,y⟩=>⟨x,_,y,?_,by simp;omega,fun s b=> ?_⟩
   ·unfold kN;rw[J4,if_pos U];simp[bD.p]
   ·rcases aoZ.1 b with b|b
    ·have :=z s b;omega
    ·simp at b;subst b
     have :=Tx u [] kind ⟨(j,m),n,(o,q)⟩;simp at this⊢;omega
 ·obtain⟨k,Y⟩:=aqe (a:=cK (hz f (c,d)) l) (by omega)
  have eh:k<l.length:=by omega
  have Al:=z l[k] (aoY _);refine(abp B r g i v l k eh l[k].ad rfl (by omega) j m kind C D c d E F n o q I f L u w Q R h X S Y).mono fun e M ⟨x,ic,y⟩=>⟨x,_,y,?_,by rw[aqx];omega,fun s b=> ?_⟩
  ·unfold kN;rw[J4,if_neg U,Y]
   simp only[aqN,Int.ofNat_eq_natCast];rw[List.map_set,NF _ _ _ (by simpa using eh)];simp[bD.p]
  ·rcases List.mem_or_eq_of_mem_set b with b|rfl
   ·have :=z s b;omega
   ·have :=Tx u l[k].ad kind ⟨(j,m),n,(o,q)⟩
    simp;omega
structure bu where
 id:PId
 kind:Int
 list:Bool
 object:PId
 key:ByteArray
 element:PId
 behind:PId
 num:Int
 obj:PId
 old:List PId
def bu.held (p:bu):cE:=⟨p.id,p.num,p.obj⟩
def iL (x:PId) (o:ba):Bool:=et o.id.1 o.id.2 x.1 x.2
def e9 (p:bu) (o:ba):ba:=
 if p.kind=2 then(if o.list then⟨o.id,o.list,oD o.ss p.behind p.id⟩ else o)
 else if o.list=p.key.toList.isEmpty then⟨o.id,o.list,kN o.ss o.list p.key p.element p.old p.kind p.held⟩ else o
def b0 (d:List ba) (p:bu):List ba:=
 if p.kind=1 then d++[⟨p.id,p.list,[]⟩]
 else if cK (iL p.object) d<0 then d
 else d.modify (cK (iL p.object) d).toNat (e9 p)
theorem J6(x:PId)(a:List dA):cK (iL x) (a.map dA.p)=cK (lo x) a:=by
 rw[Ts];rfl
def Ty (p:bu) (a:Value):Value:=.agg #[A p.id.1,A p.id.2,A p.kind,.bool p.list,A p.object.1,A p.object.2,.string p.key,A p.element.1,A p.element.2,A p.behind.1,A p.behind.2,A p.num,A p.obj.1,A p.obj.2,a]
theorem fq.more(h:fq d e l a F s)(r:J l j)(t:j.grownBy b F.ownBlock)(P:b.ownsRow d 272 4 k (s.length+1) ((s++[(⟨C,y,.slice none 0 0,[]⟩:dA)]).flatMap jG)):
  fq d (e+1) (b.setCell (H a) k) a k (s++[(⟨C,y,.slice none 0 0,[]⟩:dA)])/\mc d l (b.setCell (H a) k):=by
 have u:=h.af r;have hdv:some a≠F.ownBlock:=by
  intro m;obtain⟨c,w⟩:=bt h.ae.1 m.symm;exact absurd (bz h.ai w) (by decide)
 have Q:b.heap[a]?=some (.cells #[F] 277 (0,0)):=by rw[t.block a u.lt hdv];exact u.ai
 have D:∀i,i≠a->(b.setCell (H a) k).heap[i]?=b.heap[i]?:=fun i E=>apj _ _ _ _ E
 have R:∀g,F.ownBlock=some g->∃c,j.heap[g]?=some (.cells c 272 (0,0)):=fun g t=>bt u.ae.1 t
 have S:∀(g:Nat) (c:Array Value) (m:TypeId),j.heap[g]?=some (.cells c m (0,0))->m≠272->m≠277->(b.setCell (H a) k).heap[g]?=j.heap[g]?:=by
  intro g c m I L M;have jl:g≠a:=by intro v;subst v;exact M (bz I u.ai)
  rw[D g jl,t.block g (ao1.1 I).1 (fun v=>by obtain⟨b2,N⟩:=R g v.symm;exact L (bz I N))]
 refine⟨⟨?_,h.hB,⟨?_,?_,?_⟩,?_,?_⟩,?_⟩
 ·simp[World.setCell,aqw,Q]
 ·refine⟨by simpa using P.1,?_⟩
  rcases P.2 with⟨U,aw⟩|⟨g,cap,cur,U,W,x,rest⟩
  ·omega
  ·refine .inr ⟨g,cap,cur,by simpa using U,W,?_,by simpa using rest⟩
   rw[D g (by intro m;subst m;exact absurd (bz x Q) (by decide))];exact x
 ·intro o q
  rcases aoZ.1 q with q|q
  ·refine J2 (u.ae.2.1 o q) (fun g fX=> ?_) (fun g c w=>S g c _ w (by decide) (by decide))
   obtain⟨c,w⟩:=bt (u.ae.2.1 o q).1 fX;exact S g c _ w (by decide) (by decide)
  ·simp at q;subst q
   exact⟨ao9 _ _ _ _,fun n z=>by simp at z⟩
 ·intro i p E ar hE
  rw[aoW,ap1]at E ar;by_cases B:i<s.length
  ·by_cases X:p<s.length
   ·rw[aqn B,aqn X];exact h.ae.2.2 i p B X hE
   ·rw[aqn B]
    have :p=s.length:=by omega
    subst this;cases W:s[i].gY.ownBlock with
    |none=>exact .inl rfl
    |some g=>right;simp[Value.ownBlock]
  ·have :i=s.length:=by omega
   subst this
   left;simp[Value.ownBlock]
 ·rw[aoW];have :=h.hn;simp;omega
 ·intro o q
  rcases aoZ.1 q with q|q
  ·exact⟨by have :=(h.ad o q).1;omega,fun n z=>by have :=(h.ad o q).2 n z;omega⟩
  ·simp at q;subst q;exact⟨by simp,fun n z=>by simp at z⟩
 ·have hBd:=h.hB
  refine⟨⟨t.os.trans r.os,t.tape.trans r.tape,t.output.trans r.output,?_,fun i E=> ?_⟩,fun g c m f x L M ak=> ?_⟩
  ·have :=t.size;have :=r.size;simp[World.setCell];omega
  ·have B:i<l.heap.size:=by have :=h.lt;omega
   rw[D i (by omega),t.block i (by have :=r.size;omega) (fun m=>by have :=(aoT h.ae.1 i m.symm).1;omega),r.block i B]
  ·have Y:=(ao1.1 x).1
   have NH:j.heap[g]?=some (.cells c m f):=by rw[r.block g Y];exact x
   rw[D g (fun v=>by subst v;exact L (bz NH u.ai)),t.block g (by have :=r.size;omega) (fun v=>by obtain⟨b2,N⟩:=R g v.symm;exact M (bz NH N)),r.block g Y]
theorem abN{o:Oper}{a:Act}(i:o.guard=none)(s x:Operand)(k:o.op=.call {callee:=.builtin .append,args:= #[s,x],argTypes:= #[275,275]})(B:Nat)(d:Value)(l:List dA)(m:a.eval s=d)(n:b.ownsRow B 272 4 d l.length (l.flatMap jG))(g c:Nat)(y:dA)(p:a.eval x=.slice (some (H g)) 1 c)(q:∀j u,(jG y)[j]?=some u->b.cell? (K g j)=some u)(r:∀u∈jG y,u.oneCell'=true)(C:l.length<10000000)(t:B<=b.heap.size)(h:∀e f,f.ownsRow B 272 4 e (l.length+1) ((l++[y]).flatMap jG)->b.grownBy f d.ownBlock->iT b d e->v (a.put o.dst e) f):
  if Region.wanted o (yielded w a.tmps)=true then Oper.wp prog o a b v z else D:=
 xi jG 4 48 275 272 (.agg #[A 0,A 0,.bool false,.slice none 0 0]) (by kernel_rfl) underlying275 rfl (by omega) (fun _=>rfl)
  i s x k B d l m n g c y p q r (by omega) (by unfold maxLen;omega) t h
theorem abO{c d:Int}:∀j u,(jG ⟨(c,d),y,.slice none 0 0,[]⟩)[j]?=some u->(b.alloc (.cells #[A c,A d,.bool y,.slice none 0 0] 272)).cell? (V b j)=some u:=by
 intro j u a;rw[arj _ _ _ _ rfl]
 match j with
 |0=>simpa[jG]using a
 |1=>simpa[jG]using a
 |2=>simpa[jG]using a
 |3=>simpa[jG]using a
 |j+4=>simp[jG]at a
theorem abP:∀u∈jG ⟨C,y,.slice none 0 0,[]⟩,u.oneCell'=true:=by
 intro u a;simp[jG]at a;rcases a with rfl|rfl|rfl|rfl<;>rfl
theorem abQ(B t d:Nat)(v:Value)(f:List dA)(aF:t<100000)(C:Value)(i j P Q R S U W n X D:Int)(k:Bool)(Y:ByteArray)(w:World)(h:fq B t w d v f)(ND:∃E no F,C=.slice E no F):
  O 192 #[Z d,.agg #[A i,A j,A 1,.bool k,A P,A Q,.string Y,A R,A S,A U,A W,A n,A X,A D,C]] w fun e I=>
   e=.returned (.tuple #[])/\∃v',fq B (t+1) I d v' (f++[⟨(i,j),k,.slice none 0 0,[]⟩])/\mc B w I:=by
 obtain⟨a,u,rfl,jk,dh,fu⟩:=bp h.ae.1;obtain⟨E,no,F,rfl⟩:=ND;have x:=h.cell;have y:=h.Ck;have z:=h.lt;have hBd:=h.hB;have Cm:=h.hn;have hBw:B<=w.heap.size:=by omega
 clear fu;have L:Hq (some d≠(Value.slice a f.length u).ownBlock):=by
  intro e;obtain⟨c,hc⟩:=bt h.ae.1 e.symm;exact absurd (bz h.ai hc) (by decide)
 have m:=aa h;clear h;go_enter func192,ntmps192;go_wp2;generalize l:w.alloc _=b;have g:J w b:=by rw[<-l];exact(aoQ _ w).alloc (aoP _) _
 have jS:b.cell? (V w 0)=some (A i):=by rw[<-l];simp[go_sem]
 have q1:b.cell? (V w 1)=some (A j):=by rw[<-l];simp[go_sem]
 have xk:b.cell? (V w 3)=some (.bool k):=by rw[<-l];simp[go_sem]
 clear l;replace x:=af g x;replace y:=(g.frozen (p:=(H d)) z).trans y;have hz0:=g.size;replace z:d<b.heap.size:=by omega
 have pZ:w.heap.size<b.heap.size:=ao4 b _ jS;replace m:=aa (m.o.af g);have a1:=aa g;clear g;go_region_law (refine abN rfl (.tmp 13) (.tmp 19) rfl B (.slice a f.length u) f (by simp[Act.eval,Act.put]) ?h1 b.heap.size 1 ⟨(i,j),k,.slice none 0 0,[]⟩ (by simp[Act.eval,Act.put]) ?h2 ?ak ?aL ?bW ?_;(case h1=>exact m.o.ae.1.alloc _);(case h2=>exact abO);(case ak=>exact abP);(case aL=>omega);(case bW=>simp;omega);intro D M q r lN;have s:J b (b.alloc (.cells #[A i,A j,.bool k,.slice none 0 0] 272)).drew:=((aoQ _ b).alloc (aoP _) _).drew;have fp:M.cell? (H d)=some (.slice a f.length u):=r.cell (af s x) L.o;have rq:M.frozen? (H d)=false:=(arn (a:=(H d)) (r.block d (by simp;omega) L.o)).trans ((s.frozen (p:=(H d)) z).trans y);have N:=aa (m.o.more s r q);obtain⟨a2,bd,jR,_,_,_⟩:=bp q;subst jR;clear s r lN;have mb:=aa q;clear q)
 all_goals(try go_wp2)
 all_goals refine bodyPost_ret (results_none rfl _ _ _) rfl ?_
 all_goals exact⟨rfl,_,N.o.1,(mc.cQ a1.o hBw).trans N.o.2⟩
end Go.Proofs.YtnkpogjiiohapaaGreatDoor
