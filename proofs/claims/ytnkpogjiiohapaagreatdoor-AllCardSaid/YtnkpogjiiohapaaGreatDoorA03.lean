/- Our own text. -/
import Derived.Deep.RegionLaw
import Derived.Test.YtnkpogjiiohapaaGreatDoorA01
set_option linter.unusedSimpArgs false
set_option linter.unusedVariables false
set_option maxRecDepth 1000000
set_option maxHeartbeats 1600000
namespace Go.Proofs.YtnkpogjiiohapaaGreatDoor
open Go.RowKit Tryz
variable {a b d e l m S:Nat}{c j k n w:World}{f:Array Value}{h:List bX}{i P:Value}{q:ByteArray}{r:List ep}{s:List PId}{u:List dr}{v:Nat->Bool}{y R:TypeId}{B:Array Oper}{C:Exit->Act->World->Prop}{D:Int}{E:List Value}{F:PId}{I:Act->World->Prop}{L:Bool}{M:Oper}{N:Prop}
def uZ (B:Nat) (w:World) (v:Value) (l:List dr):Prop:=w.ownsRow B 243 5 v l.length (l.flatMap sc)
theorem uZ.alloc{B w v l}(h:uZ B w v l)(o:Obj):uZ B (w.alloc o) v l:=Cc h o
theorem uZ.dn{w v l}(h:uZ a w v l)(b:Below a c w)(d:a<=w.heap.size)(e:w.grownBy j v.ownBlock):Below a c j:=
 b.grown e d λk f=>(cX h k f).1
theorem uZ.ak{w v l}{w':World}(h:uZ a w v l)(b:J w w'):uZ a w' v l:=dI h b
theorem agH{y:dr}:∀u∈sc y,u.oneCell'=true:=by intro u a;simp[sc]at a;rcases a with rfl|rfl|rfl|rfl|rfl<;>rfl
theorem Tm{y:dr}(d:c.cell? (H a)=some (A y.dt.1))(e:c.cell? (K a 1)=some (A y.dt.2))(f:c.cell? (K a 2)=some (A y.kW))(g:c.cell? (K a 3)=some (A y.obj.1))(h:c.cell? (K a 4)=some (A y.obj.2)):
  ∀j u,(sc y)[j]?=some u->c.cell? (K a j)=some u:=by
 intro j u b
 match j with
 |0=>simp[sc]at b;simp_all
 |1=>simp[sc]at b;simp_all
 |2=>simp[sc]at b;simp_all
 |3=>simp[sc]at b;simp_all
 |4=>simp[sc]at b;simp_all
 |j+5=>contradiction
theorem Tn{rest:List Oper}{a:Act}(i:M.guard=none)(s x:Operand)(k:M.op=.call {callee:=.builtin .append,args:= #[s,x],argTypes:= #[227,227]})(b:Nat)(v:Value)(l:List dr)(m:a.eval s=v)(n:uZ b c v l)(g d:Nat)(y:dr)(o:a.eval x=aa g 1 d)(p:∀j u,(sc y)[j]?=some u->c.cell? (K g j)=some u)(t:l.length<1000000000)(q:b<=c.heap.size)(h:∀f e,uZ b e f (l++[y])->c.grownBy e v.ownBlock->wpList prog B C rest (a.put M.dst f) e):wpList prog B C (M::rest) a c:=
 OP sc 5 40 227 243 (.agg #[A 0,A 0,A 0,A 0,A 0]) (by kernel_rfl) underlying227 rfl (by omega) (λ_=>rfl) i s x k b v l m n g d y o
  p agH (by omega) (by unfold maxLen;omega) q (λf e w r=>h f e (by unfold uZ;simp_all) r)
def unnamed (a:List PId) (b:List dr):List dr:=b.filter λh=> !decide (h.dt∈a)
theorem agI(h:a<u.length)(b:decide (u[a].dt∈s)=false):unnamed s (u.take (a+1))=unnamed s (u.take a)++[u[a]]:=by unfold unnamed;rw[lx h,r6,F6];simp_all
theorem agJ(h:a<u.length)(b:decide (u[a].dt∈s)=true):unnamed s (u.take (a+1))=unnamed s (u.take a):=by unfold unnamed;rw[lx h,r6,F6];simp_all
theorem agK(a:List PId)(b:List dr)(k:Nat):(unnamed a (b.take k)).length<=k:=
 cd (r7 _ _) (atx _ _)
theorem agL{l:List bX}{k:Nat}(b:k<l.length)(a:Value)(c:List dr):
  (l.set k ⟨l[k].key,l[k].id,a,c⟩).flatMap kX=(l.flatMap kX).set (k*4+3) a:=by
 induction l generalizing k with
 |nil=>simp at b
 |cons s l ih=>
  cases k with
  |zero=>simp[kX,jI]
  |succ k=>
   have :=ih (k:=k) (by simp_all);simp only[KY,jI,OD];rw[this];have e:(k+1)*4+3=(kX s).length+(k*4+3):=by simp[kX];omega
   rw[e,atA _ _ (by omega)];congr 1;congr 1;omega
theorem ZD(f:mq d c (aa a b e) h)(i:b=h.length){k:Nat}(j:k<h.length)(g:Value)(l:List dr):
  mq d (c.setCell (K a (k*4+3)) g) (aa a b e) (h.set k ⟨h[k].key,h[k].id,g,l⟩):=by
 subst i;have :=YM f (k*4+3) g;unfold mq;rw[agL j,F7]
 simp_all
theorem O2{base:Nat}{size:Nat}(h:c.ownsRow base y size (aa a b d) e E):∃g,c.heap[a]?=some (.cells g y):=by
 rcases h.2 with⟨i,_⟩|⟨j,f,g,i,_,k,_⟩
 .simp_all
 simp_all
theorem O3(h:mp c i u)(m:c.heap[a]?=some (.cells f y))(n:y≠243)(d:Value):mp (c.setCell (K a b) d) i u:=by
 refine⟨h.1,?_⟩;rcases h.2 with o|⟨e,g,j,k,l,p,rest⟩
 .simp_all
 refine .inr ⟨e,g,j,k,l,?_,rest⟩;have :e≠a:=by intro q;simp_all
 rw[mn _ _ _ _ this];omega
theorem oS.agM
  (w:j.heap[b]?=some (.cells f 272)) (x:f[S+3]?=some (aa a e l))
  (n:jm m j (aa a e l) h) (y:e=h.length) (o:J j c) (z:d<h.length) (B:mp c i u):
  oS m j (c.setCell (K a (d*4+3)) i) b S f (aa a e l) (h.set d ⟨h[d].key,h[d].id,i,u⟩):=by
 have E:c.heap[b]?=some (.cells f 272):=by rw[o.block b ((e8.1 w).1)];omega
 have p:=n.ak o;obtain⟨F,t⟩:=O2 p.1;have C:b≠a:=by intro k;simp_all
 have v:∀g,g≠a->(c.setCell (K a (d*4+3)) i).heap[g]?=c.heap[g]?:=λg q=>mn _ _ _ _ q
 refine⟨⟨_,⟨ZD p.1 y z i u,?_⟩,?_,.inl rfl⟩,o.os,o.tape,o.output,by simpa[World.setCell]using o.size,λg q I D=> ?_⟩
 .intro s r;rcases afQ r with r|rfl
  .exact O3 (p.2 s r) t (by decide) i
  exact O3 B t (by decide) i
 .rw[v b C,Zo x];omega
 rw[v g (λk=>D (by rw[k];rfl)),o.block g q]
def lA (a:List PId) (b:List dr) (c:Int) (y:dr):List dr:=unnamed a b++(if c=3 then[y] else[])
theorem agN (B F I:Nat) (X:Array Value) (v:Value) (l:List bX) (k:Nat) (hk:k<l.length) (b:List dr) (Y:l[k].aj=b) (Lh:b.length<1000000)
  (x y L eL eI av aD fD fx n z C:Int) (a6:Bool) (key:ByteArray) (ea:Value) (c:List PId) (w:World)
  (dO:w.heap[F]?=some (.cells X 272)) (hj:X[I+3]?=some v) (h:jm B w v l) (hB:B<=w.heap.size) (hold:fu w ea c)
  (wz:di (iG key (av,aD)) l=(k:Int)):
  O 215 #[.pointer (some (K F I)),.agg #[A x,A y,A L,.bool a6,A eL,A eI,.string key,A av,A aD,A fD,A fx,A n,A z,A C,ea]] w λe w'=>e=ad (.tuple #[])/\∃M,oS B w w' F I X v (l.set k ⟨l[k].key,l[k].id,M,lA c b L ⟨(x,y),n,(z,C)⟩⟩):=by
 obtain⟨a,cap,rfl,kt,dM,ku⟩:=bz h.1;unfold maxLen at dM;obtain⟨g,rfl⟩:=ku k hk;obtain⟨jO,co,rfl,Ck,hom,_⟩:=bz hold;obtain⟨bw,bm,bq,D⟩:=jm.cells h rfl k hk;have u9:=h.2 l[k] (dB _);obtain⟨cq,cf,aO,mP,zd,ZE⟩:=bz u9;unfold maxLen at zd;rw[aO,Y]at D;rw[aO,Y]at u9;rw[Y]at mP ZE;have E:w.cell? (K F (I+3))=some (aa g l.length cap):=by simp[World.cell?,dO,hj]
 have aT:=h;have xT:=dO;have Le:=hj;have zf:=ag hold;have II:=ag u9;have e2:=ag aO;have To:=ZE;have zg:=ag Y;have dG:=e7 w _ E;have Gk:g<w.heap.size:=e7 w _ D;go_enter func215,ntmps215;go_wp2_with (go_at_call 172;go_must (refine(Gh B F I (aa g l.length cap) l key av aD _ ?aE ?ah).mono ?_;(case aE=>exact ak (aV w _) E);(case ah=>exact aT.ak (aV w _));rintro e N ⟨rfl,f⟩;have m:=(aV w _).trans (f.mono (by simp));have va:=ak (a:=(V w 0)) (v:=A x) f (by simp);have Gl:=ak (a:=(V w 1)) (v:=A y) f (by simp);have Gm:=ak (a:=(V w 2)) (v:=A L) f (by simp);have Gn:=ak (a:=(V w 11)) (v:=A n) f (by simp);have Gp:=ak (a:=(V w 12)) (v:=A z) f (by simp);have Gq:=ak (a:=(V w 13)) (v:=A C) f (by simp);have IJ:=ak (a:=(V w 14)) (v:=.slice jO c.length co) f (by simp);replace E:=ak m E;replace D:=ak m D;have P:=m))
 have hz0:=P.size;have xU:Hq (∀q M,J N q->mp q M (lA c b L ⟨(x,y),n,(z,C)⟩)->oS B w (q.setCell (K g (k*4+3)) M) F I X (aa g l.length cap) (l.set k ⟨l[k].key,l[k].id,M,lA c b L ⟨(x,y),n,(z,C)⟩⟩)):=
  λq M ah aC=>oS.agM xT Le aT rfl (P.trans (ah.mono hz0)) hk aC
 have ZF:Hq (∀q,J N q->q.frozen? (K g (k*4+3))=false):=λq ah=>
  ((P.trans (ah.mono hz0)).frozen (p:=(K g (k*4+3))) Gk).trans (SD aT.1 _)
 replace zf:=ag (zf.o.ak P);replace II:=ag (II.o.ak P);go_loopw [5,6] (λu i wr=>∃j:Nat,j<=b.length/\i=A j/\uZ N.heap.size wr u (unnamed c (b.take j))/\J N wr) (λ_ i _=>b.length-(intOf i).toNat)
 case atStart=>exact⟨0,b6 _,rfl,hg _ _ _ _,ca _ _⟩
 case round=>
  obtain⟨j,aB,rfl,R,d⟩:=hrel;have l8:=ag E;have wA:=ag D;replace E:=ak d l8.o;replace D:=ak d wA.o;have AF:=ak d IJ;have sk:w.heap.size<wr.heap.size:=e7 wr _ AF;have hz1:=d.size;have hz0:=P.size;have xV:=agK c b j;by_cases aL:j<b.length
  .obtain⟨IK,AG⟩:=To j aL;subst AG;obtain⟨d0,d1,d2,d3,d4⟩:=mp.cells II.o rfl j aL;replace d0:=ak d d0;replace d1:=ak d d1;replace d2:=ak d d2;replace d3:=ak d d3;replace d4:=ak d d4;have atX:IK<wr.heap.size:=e7 wr _ d0;have r:=ag R;have s:=ag d;cases aw:decide (b[j].dt∈c)
   .have S:=ag aw;go_wp2_with (first
     |(go_at_call 237;refine(Zg (.slice jO c.length co) c b[j].dt.1 b[j].dt.2 _ ?aE).mono ?_;(case aE=>exact(zf.o.ak s.o).ak (aV wr _));rintro e w2 ⟨U,t⟩;rw[show decide ((b[j].dt.1,b[j].dt.2)∈c)=false from S.o]at U;subst U;have x0:=ak (a:=(V wr 0)) (v:=A b[j].dt.1) t (by simp);have x1:=ak (a:=(V wr 1)) (v:=A b[j].dt.2) t (by simp);have x2:=ak (a:=(V wr 2)) (v:=A b[j].kW) t (by simp);have x3:=ak (a:=(V wr 3)) (v:=A b[j].obj.1) t (by simp);have x4:=ak (a:=(V wr 4)) (v:=A b[j].obj.2) t (by simp);have m:=(aV wr _).trans (t.mono (by simp));have hz2:=m.size;have Q:=ag m)
     |(at_builtin;refine Tn rfl (.tmp 74) (.tmp 76) rfl N.heap.size _ (unnamed c (b.take j)) rfl ?h1 w2.heap.size 1 b[j] rfl ?h2 ?a8 ?cP ?_;(case h1=>exact(r.o.ak Q.o).alloc _);(case h2=>exact Tm (by simp) (by simp) (by simp) (by simp) (by simp));(case a8=>omega);(case cP=>simp;omega);intro v' w3 ij ee;have jP:=ee;have fF:=ag ij))
    go_roundw
    case rel=>exact⟨j+1,by omega,by go_num,by rw[agI aL S.o];exact fF.o,uZ.dn ((r.o.ak Q.o).alloc _) ((s.o.trans (Q.o.mono hz1)).alloc (by omega) _) (by simp;omega) jP⟩
    case measure=>simp[intOf];omega
   have S:=ag aw;go_wp2_with (go_at_call 237;refine(Zg (.slice jO c.length co) c b[j].dt.1 b[j].dt.2 _ ?aE).mono ?_;(case aE=>exact(zf.o.ak s.o).ak (aV wr _));rintro e w2 ⟨U,t⟩;rw[show decide ((b[j].dt.1,b[j].dt.2)∈c)=true from S.o]at U;subst U;have m:=(aV wr _).trans (t.mono (by simp));have Q:=ag m)
   go_roundw
   case rel=>exact⟨j+1,by omega,by go_num,by rw[agJ aL S.o];exact r.o.ak Q.o,s.o.trans (Q.o.mono hz1)⟩
   case measure=>simp[intOf];omega
  have fj:=ak d va;have gv:=ak d Gl;have mR:=ak d Gm;have IL:=ak d Gn;have IM:=ak d Gp;have IN:=ak d Gq;rw[kp (by omega)]at R xV;have s:=ag d;by_cases jp:L=3
  .have r:=ag R;subst jp;go_wp2_with (at_builtin;go_must (refine Tn rfl (.tmp 81) (.tmp 87) rfl N.heap.size _ (unnamed c b) rfl ?h1 wr.heap.size 1 ⟨(x,y),n,(z,C)⟩ rfl ?h2 ?a8 ?cP ?_;(case h1=>exact r.o.alloc _);(case h2=>exact Tm (by simp) (by simp) (by simp) (by simp) (by simp));(case a8=>omega);(case cP=>simp;omega);intro v' w3 ij ee;have bu:=uZ.dn (r.o.alloc _) (s.o.alloc hz1 _) (by simp;omega) ee;obtain⟨a3,Li,W,_,_,_⟩:=bz ij;generalize(unnamed c b++[(⟨(x,y),n,(z,C)⟩:dr)]).length=pr at W;subst W;replace E:=ak bu l8.o;replace D:=ak bu wA.o;have j8:=ZF.o w3 bu;have cj:=bu;have fF:=ag ij))
   go_end0
   exact⟨rfl,_,xU.o _ _ cj (by have :=fF.o;unfold lA;rw[bn rfl];exact ii this (b6 _))⟩
  have j8:=ZF.o wr s.o;obtain⟨a3,Li,W,_,_,_⟩:=bz R;generalize(unnamed c b).length=pr at W;subst W;have r:=ag R;go_wp2;go_end0
  exact⟨rfl,_,xU.o _ _ s.o (by have :=r.o;unfold lA;rw[a7 jp,oM];exact ii this (b6 _))⟩
def lB (w:World) (v v':Value):Prop:=v'.ownBlock=v.ownBlock\/∀k,v'.ownBlock=some k->w.heap.size<=k
theorem Tp{P:Program}(w:World)(base:Nat)(t f e:TypeId)(i:TypeInfo)(z:Value)(size bytes:Nat)(r:P.underlying t=some (.slice e))(s:P.info? e=some i)(C:i.zero=some z)(I:i.size=size)(L:i.bytes=bytes)(S:z.cells.size=size)(U:0<size)(v:Value)(n:Nat)(x:List Value)(y:w.ownsRow base e size v n x)(a:Addr)(m c:Nat)(b:List Value)(h:b.length=m*size)(B:∀j u,b[j]?=some u->w.cell? (a.add j)=some u)(M:∀u∈b,u.oneCell'=true)(W:n+m<=maxLen)(D:(n+m)*bytes<=140737488355328)(X:base<=w.heap.size):
  ∃l o,(Builtin.append_ #[t,t] f #[v,.slice (some a) m c]).run P w=.ok l o/\o.ownsRow base e size l (n+m) (x++b)/\w.grownBy o v.ownBlock/\lB w v l:=by
 obtain⟨l,o,d,Y,aq,IP⟩:=SE (P:=P) w base t f e i z size bytes r s C I L S U v n x y a m c b h B M W D X;refine⟨l,o,d,Y,aq,?_⟩;have agO:n+m<=9223372036854775807:=by assumption
 subst I;subst L;rcases y.2 with⟨rfl,rfl⟩|⟨g,E,N,rfl,O4,tc,Ee,dM,jq,Lj⟩
 .by_cases hm:m=0
  .exact .inl (by simp_all)
  have p:=run_append_nil (P:=P) w t f e i z r s C a m c b h B (by omega) (by omega) (by have ah:=D;simp only[sY]at ah;omega);rw[p]at d;injection d with q Q;subst q;exact .inr λk F=>by simp[Value.ownBlock]at F;omega
 by_cases R:n+m<=E
 .have td:n*i.size+b.length<=N.size:=by rw[h,jq,<-uW];exact wn _ R
  have p:=run_append_room (P:=P) w t f e i r s g n E N tc a m c b h B M R td;rw[p]at d;injection d with q Q;subst q;exact .inl rfl
 have p:=run_append_grow (P:=P) w t f e i z r s C (H g) n E x y.1 (y.cells (g:=g) rfl) a m c b h B (by omega) (by omega) (afR (by omega) D);rw[p]at d;injection d with q Q;subst q;exact .inr λk F=>by simp[Value.ownBlock]at F;omega
theorem AI {α:Type} (f:α->List Value) (size bytes:Nat) (t e:TypeId) (z:Value) (m:(prog.info? e).map (λi=>(i.zero,i.size,i.bytes))=some (some z,size,bytes))
  (n:prog.underlying t=some (.slice e)) (p:z.cells.size=size) (q:0<size) (r:∀x,(f x).length=size)
  {o:Oper} {a:Act} {w:World}
  (D:o.guard=none) (s x:Operand) (E:o.op=.call {callee:=.builtin .append,args:= #[s,x],argTypes:= #[t,t]}) (b:Nat) (v:Value) (l:List α) (F:a.eval s=v)
  (L:w.ownsRow b e size v l.length (l.flatMap f)) (g c:Nat) (y:α) (M:a.eval x=aa g 1 c)
  (Q:∀j u,(f y)[j]?=some u->w.cell? (K g j)=some u) (R:∀u∈f y,u.oneCell'=true) (S:(l.length+1)*bytes<=140737488355328) (sd:l.length<maxLen) (U:b<=w.heap.size)
  (h:∀d k,k.ownsRow b e size d (l.length+1) ((l++[y]).flatMap f)->w.grownBy k v.ownBlock->lB w v d->I (a.put o.dst d) k):
  if Region.wanted o (yielded B a.tmps)=true then Oper.wp prog o a w I C else N:=by
 have W:Region.wanted o (yielded B a.tmps)=true:=by simp[Region.wanted,D]
 rw[bn W];obtain⟨i,X,Y,cw,eg⟩:=qH m;obtain⟨d,k,aP,h2,ax,a8⟩:=Tp (P:=prog) w b t o.type e i z size bytes n X Y cw eg p q v l.length (l.flatMap f) L (H g) 1 c (f y) (by rw[r];simp)
  (λj u hu=>by
   have :((H g):Addr).add j=(K g j):=by unfold Addr.add;split <;>simp_all
   rw[this];exact Q j u hu) R (by omega) S U
 unfold Oper.wp execOp;simp only[E,resolve,invoke,builtin,mL,xL,oK,KW,ip,uV,F,M,aP];exact h d k (by simpa using h2) ax a8
theorem ZG{w}(h:mp w i u)(f:∀(g:Nat) (a:Array Value),w.heap[g]?=some (.cells a 243)->c.heap[g]?=w.heap[g]?):mp c i u:=by
 refine⟨h.1,?_⟩;rcases h.2 with j|⟨g,b,a,d,e,k,rest⟩
 .simp_all
 exact .inr ⟨g,b,a,d,e,by simp_all,rest⟩
theorem cQ{w:World}{g:Nat}{c a:Array Value}{f b:Nat×Nat}(h:w.heap[g]?=some (.cells c y f))(d:w.heap[g]?=some (.cells a R b)):y=R:=by simp_all
theorem b0{w:World}{base:Nat}{size:Nat}{v:Value}{n:Nat}(h:w.ownsRow base y size v n E){g:Nat}(b:v.ownBlock=some g):∃a,w.heap[g]?=some (.cells a y):=by
 rcases h.2 with⟨rfl,_⟩|⟨d,c,a,rfl,_,e,_⟩
 .contradiction
 simp[Value.ownBlock]at b;simp_all
theorem iX{p:Prop}{w:World}{base:Nat}{size:Nat}(h:w.ownsRow base y size i a E){g:Nat}(c:i.ownBlock=some g){b:Nat×Nat}(d:w.heap[g]?=some (.cells f R b))(ne:y≠R):p:=by obtain⟨_,e⟩:=b0 h c;exact absurd (cQ e d) ne
theorem mq.form(f:mq b c (aa d a e) h):c.ownsRow b 269 4 (aa d a e) a (h.flatMap kX):=by
 obtain⟨i,j,g,_⟩:=bz f;injection g with _ g _;unfold mq at f
 simp_all
structure Made (B:Nat) (w w1 W w2 w3:World) (go cG:Nat) (cO:Array Value) (v:Value) (l:List bX) (g2 cx bq:Nat) (key:ByteArray):Prop where
 dO:w.heap[go]?=some (.cells cO 272)
 hj:cO[cG+3]?=some v
 h:jm B w v l
 aA:J w w1
 gw:J w1 W
 fw:W.grownBy w2 v.ownBlock
 hD:mq B w2 (aa g2 cx bq) (l++[lQ key (0,0)])
 lj:cx=l.length+1
 dJ:lB W v (aa g2 cx bq)
 hI:w3=w2.setCell (K go (cG+3)) (aa g2 cx bq)
theorem Made.bI{w v l g i}(m:Made b w c j k n a d f v l S g i q):some a≠v.ownBlock:=by intro e;exact iX m.h.1 e.symm m.dO (by decide)
theorem Made.AJ{w}(g:Made a w j c k n b d f i h e l m q):J w c:=bp g.aA g.gw
theorem Made.lt{w W v l key}(g:Made b w c W j k a d f v l e m S key):a<w.heap.size:=(e8.1 g.dO).1
theorem Made.go2{w}(g:Made b w j k c n a d f i h e l m q):c.heap[a]?=some (.cells f 272):=by rw[g.fw.block a (c0 g.lt g.AJ.size) g.bI,g.AJ.block a g.lt];exact g.dO
theorem Made.ne{v}(g:Made d c j k n w a e f v h b l m q):a≠b:=by intro i;subst i;obtain⟨p,o⟩:=O2 g.hD;exact absurd (cQ g.go2 o) (by decide)
theorem Made.ZH(g:Made m j k n w c a b f i h d e l q):c.heap[a]?=some (.cells (f.setIfInBounds (b+3) (aa d e l)) 272):=by rw[g.hI];simp[World.setCell,D4,g.go2]
theorem Made.ZI{w}(o:Made b w k n c j a d f i h e l m q)(g:Nat)(p:g≠a):j.heap[g]?=c.heap[g]?:=by rw[o.hI];exact mn _ _ _ _ p
theorem Made.agP(g:Made a k n w c j b d f i h e l m q):j.heap.size=c.heap.size:=by rw[g.hI];simp
theorem Made.old{w i v key}(g:Made b w n c i j a d f v h e l m key)(k:Nat)(o:k<c.heap.size)(p:k≠a)(q:some k≠v.ownBlock):j.heap[k]?=c.heap[k]?:=by rw[g.ZI k p,g.fw.block k o q]
theorem Made.Tq(o:Made a j k n w c l m f i h b d e q):mq a c (aa b d e) (h++[lQ q (0,0)]):=by
 refine⟨o.hD.1,?_⟩;rcases o.hD.2 with⟨p,_⟩|⟨g,r,s,p,t,u,rest⟩
 .simp_all
 refine .inr ⟨g,r,s,p,t,?_,rest⟩;injection p with p _ _;injection p with p;injection p with p;subst p;rw[o.ZI _ o.ne.symm];exact u
theorem Made.agQ{w r}(o:Made a w j k n c b d f P r e l m q)(t:mp w i u):mp c i u:=by
 refine ZG (t.ak o.AJ) λg v s=>o.old g (e8.1 s).1 ?_ ?_
 .intro p;subst p;have :=o.AJ.block g o.lt;rw[this]at s;exact absurd (cQ o.dO s) (by decide)
 intro p;obtain⟨x,y⟩:=b0 (dI o.h.1 o.AJ) p.symm
 simp_all
theorem Made.IQ{w o s t}(g:Made e w c j n k l m f P o S s t q)(r:c.cell? (K b d)=some i)(u:w.heap.size<=b):k.cell? (K b d)=some i:=by have :k.heap[b]?=j.heap[b]?:=g.old b (c0 (e7 c _ r) g.gw.size) (by have :=g.lt;omega) (λp=>by have :=(cX g.h.1 b p.symm).2;omega);rw[wo (w:=j) (a:=(K b d)) this];exact(ak g.gw r)
theorem Made.agR(g:Made m j k n w c a b f i h d e l q):c.cell? (K a (b+3))=some (aa d e l):=by simp[World.cell?,g.ZH,(e8.1 g.hj).1]
theorem Made.agS{p}(g:Made d j k n w c e l p i h a b m q):c.cell? (K a (h.length*4+3))=some (.slice none 0 0):=by have o:=g.Tq;unfold mq at o;rw[show(h++[lQ q (0,0)]).length=b by rw[g.lj];simp]at o;have :=jl (f:=kX) (λ_=>rfl) o (by rw[g.lj];simp) h.length (by simp) 3 (by omega);rw[this];simp[kX,lQ]
theorem Made.upd{W D v l}(g:Made d j w W D n b e f v l a m S q)(p:J n c)(E:mp c P u):
  oS d j (c.setCell (K a (l.length*4+3)) P) b e f v (l++[⟨q,(0,0),P,u⟩]):=by
 have x:=dI g.Tq p;obtain⟨Q,y⟩:=O2 x;have z:=ZD x (by rw[g.lj];simp) (k:=l.length) (by simp) P u;have o:(l++[lQ q (0,0)]).set l.length ⟨(l++[lQ q (0,0)])[l.length].key,(l++[lQ q (0,0)])[l.length].id,P,u⟩=l++[⟨q,(0,0),P,u⟩]:=by simp[lQ]
 rw[o]at z;have B:∀i,i≠a->(c.setCell (K a (l.length*4+3)) P).heap[i]?=c.heap[i]?:=λi t=>mn _ _ _ _ t
 have F:=g.agP;have R:=g.fw.size;have I:=g.AJ.size;refine⟨⟨_,⟨z,?_⟩,?_,?_⟩,?_,?_,?_,?_,λi t L C=> ?_⟩
 .intro s r;rcases dZ.1 r with r|r
  .exact O3 ((g.agQ (g.h.2 s r)).ak p) y (by decide) P
  simp at r;subst r;exact O3 E y (by decide) P
 .rw[B b g.ne,p.block b (by rw[F];have :=g.lt;omega)];exact g.ZH
 .rcases g.dJ with h|h
  .simp_all
  exact .inr λk M=>by have :=h k M;omega
 .show c.os=j.os;rw[p.os,g.hI];exact g.fw.os.trans g.AJ.os
 .show c.tape=j.tape;rw[p.tape,g.hI];exact g.fw.tape.trans g.AJ.tape
 .show c.output=j.output;rw[p.output,g.hI];exact g.fw.output.trans g.AJ.output
 .have :=p.size;simp[World.setCell];omega
 have N:i≠a:=by
  rcases g.dJ with h|h
  .intro o;subst o;exact C (by rw[<-h];rfl)
  intro o;subst o;have :=h i rfl;omega
 rw[B i N,p.block i (by omega),g.old i (c0 t I) L C,g.AJ.block i t]
theorem agT{key:ByteArray}:∀j u,(kX (lQ key (0,0)))[j]?=some u->(c.alloc (.cells #[.string key,A 0,A 0,.slice none 0 0] 269)).cell? (V c j)=some u:=by
 intro j u a;rw[YF _ _ _ _ rfl]
 match j with
 |0=>assumption
 |1=>assumption
 |2=>assumption
 |3=>assumption
 |j+4=>assumption
theorem agU{key:ByteArray}:∀u∈kX (lQ key F),u.oneCell'=true:=by intro u a;simp[lQ,kX]at a;rcases a with rfl|rfl|rfl|rfl<;>rfl
theorem agV{a:Act}(i:M.guard=none)(s x:Operand)(k:M.op=.call {callee:=.builtin .append,args:= #[s,x],argTypes:= #[270,270]})(b:Nat)(v:Value)(l:List bX)(m:a.eval s=v)(n:mq b c v l)(g d:Nat)(y:bX)(o:a.eval x=aa g 1 d)(p:∀j u,(kX y)[j]?=some u->c.cell? (K g j)=some u)(q:∀u∈kX y,u.oneCell'=true)(z:l.length<10000000)(r:b<=c.heap.size)(h:∀e f,mq b f e (l++[y])->c.grownBy f v.ownBlock->lB c v e->I (a.put M.dst e) f):
  if Region.wanted M (yielded B a.tmps)=true then Oper.wp prog M a c I C else N:=
 AI kX 4 56 270 269 (.agg #[.string ⟨#[]⟩,A 0,A 0,.slice none 0 0]) (by kernel_rfl) underlying270 rfl (by omega) (λ_=>rfl)
  i s x k b v l m n g d y o p q (by omega) (by unfold maxLen;omega) r (λe f D t w=>h e f (by unfold mq;simp_all) t w)
theorem agW (B b c:Nat) (E:Array Value) (v:Value) (l:List bX) (jQ:l.length<1000000)
  (s t F eL eI d Q fD fx n u j:Int) (a6:Bool) (key:ByteArray) (ea:Value) (R:List PId) (w:World)
  (x:w.heap[b]?=some (.cells E 272)) (S:E[c+3]?=some v) (b3:E[c+2]?=some (.bool false)) (h:jm B w v l) (hB:B<=w.heap.size) (U:fu w ea R)
  (wz:di (iG key (d,Q)) l= -1):
  O 215 #[.pointer (some (K b c)),.agg #[A s,A t,A F,.bool a6,A eL,A eI,.string key,A d,A Q,A fD,A fx,A n,A u,A j,ea]] w λe w'=>e=ad (.tuple #[])/\∃jo,oS B w w' b c E v (l++[⟨key,(0,0),jo,lA R [] F ⟨(s,t),n,(u,j)⟩⟩]):=by
 obtain⟨a,y,rfl,kt,dM,ku⟩:=bz h.1;unfold maxLen at dM;obtain⟨jO,co,rfl,Ck,hom,_⟩:=bz U;have m:w.cell? (K b (c+3))=some (.slice a l.length y):=by simp[World.cell?,x,S]
 have W:w.cell? (K b (c+2))=some (.bool false):=by simp[World.cell?,x,b3]
 have I:w.frozen? (K b (c+3))=false:=by simp[World.frozen?,x]
 clear ku;have xW:=ag m;have O5:=ag W;have HFZ:=ag I;have z:=ag h;clear h;have xT:=ag x;clear x;have Le:=ag S;clear S;have zf:=ag U;clear U;have dG:b<w.heap.size:=e7 w _ m;have bI:some b≠(Value.slice a l.length y).ownBlock:=by
  intro e;cases a with
  |none=>simp[Value.ownBlock]at e
  |some oR=>
   obtain⟨L,rfl⟩:∃L,oR=(H L):=by
    rcases z.o.1.2 with⟨d,_⟩|⟨L,cB,cur,d,_⟩
    .injection d with d;cases d
    injection d with d;injection d with d;exact⟨L,d⟩
   simp[Value.ownBlock]at e;subst e;obtain⟨cur,q⟩:=O2 z.o.1;rw[xT.o]at q;injection q with q;injection q with _ q _;exact absurd q (by decide)
 have l9:=ag bI;clear bI;go_enter func215,ntmps215;go_wp2_with (go_at_call 172;go_must (refine(Gh B b c (.slice a l.length y) l key d Q _ ?aE ?ah).mono ?_;(case aE=>exact ak (aV w _) xW.o);(case ah=>exact z.o.ak (aV w _));rintro e i ⟨rfl,g⟩;have r:J w i:=(aV w _).trans (g.mono (by simp));have va:=ag (ak (a:=(V w 0)) (v:=A s) g (by simp[go_sem]));have Gl:=ag (ak (a:=(V w 1)) (v:=A t) g (by simp[go_sem]));have Gm:=ag (ak (a:=(V w 2)) (v:=A F) g (by simp[go_sem]));have Gn:=ag (ak (a:=(V w 11)) (v:=A n) g (by simp[go_sem]));have Gp:=ag (ak (a:=(V w 12)) (v:=A u) g (by simp[go_sem]));have Gq:=ag (ak (a:=(V w 13)) (v:=A j) g (by simp[go_sem]));have IJ:=ag (ak (a:=(V w 14)) (v:=.slice jO R.length co) g (by simp[go_sem]));have ZJ:=g;clear g;replace m:=ak r xW.o;replace W:=ak r O5.o;replace I:=(r.frozen (p:=(K b (c+3))) dG).trans HFZ.o;have Lk:=ag (ak (a:=(V w 6)) (v:=.string key) ZJ (by simp[go_sem]));have hz1:=r.size;have aJ:=ag (r);clear r))
 have Gs:=Lk.o;have jR:w.heap.size<i.heap.size:=e7 i _ Gs;clear ZJ;have agX:b<i.heap.size:=e7 i _ m;go_region_law (refine agV rfl (.tmp 29) (.tmp 33) rfl B (.slice a l.length y) l (by simp[Act.eval,Act.put]) ?h1 i.heap.size 1 (lQ key (0,0)) (by simp[Act.eval,Act.put]) ?h2 ?ax ?a8 ?cP ?_;(case h1=>exact((z.o.ak aJ.o).1).alloc _);(case h2=>exact agT);(case ax=>exact agU);(case a8=>omega);(case cP=>simp;omega);intro j X Y N lj;obtain⟨a2,bq,ka,_,_,tY⟩:=bz Y;rw[dh]at ka;obtain⟨C,rfl⟩:=tY 0 (by simp);subst ka;have P:J i (i.alloc (.cells #[.string key,A 0,A 0,.slice none 0 0] 269)).drew:=(aV i _).drew;have iI:X.cell? (K b (c+3))=some (.slice a l.length y):=N.cell (ak P m) l9.o;have tY:X.frozen? (K b (c+3))=false:=(YN (a:=(K b (c+3))) (N.block b (by simp;omega) l9.o)).trans ((P.frozen (p:=(K b (c+3))) (by show b<_;omega)).trans I);have ev:=ag N;clear N;have zj:=ag lj;clear lj;have mr:=ag Y;clear Y;have eO:=ag P;clear P)
 all_goals
  obtain⟨f,hI⟩:∃f,f=X.setCell (K b (c+3)) (aa C (l.length+1) bq):=⟨_,rfl⟩;rw[<-hI];have M:=Made.mk (key:=key) xT.o Le.o z.o aJ.o eO.o ev.o mr.o rfl zj.o hI;clear hI iI tY;have ps:=M.agR;have ce:=M.agS;have mR:=M.IQ Gm.o (bW _);have fj:=M.IQ va.o (bW _);have gv:=M.IQ Gl.o (bW _);have IL:=M.IQ Gn.o (bW _);have IM:=M.IQ Gp.o (bW _);have IN:=M.IQ Gq.o (bW _);have atZ:w.heap.size<f.heap.size:=e7 f _ mR;have IR:b<f.heap.size:=e7 f _ ps;have agY:C<f.heap.size:=e7 f _ ce;have Ll:f.frozen? (K C (l.length*4+3))=false:=SD M.Tq.form _;have bR:=ag M;clear M;clear m W I Gs;go_wp2;refine KZ 1 ?_;rw[K0];by_cases jp:F=3
  .subst jp;go_wp2_with (at_builtin;go_must (refine Tn rfl (.tmp 81) (.tmp 87) rfl f.heap.size (.slice none 0 0) [] rfl ?h1 f.heap.size 1 ⟨(s,t),n,(u,j)⟩ rfl ?h2 ?a8 ?cP ?_;(case h1=>exact hg _ _ _ _);(case h2=>exact Tm (by simp[go_sem]) (by simp[go_sem]) (by simp[go_sem]) (by simp[go_sem]) (by simp[go_sem]));(case a8=>simp);(case cP=>simp);intro v' w4 Cm eF;have D:J f w4:=(aV f _).grown eF (by simp) (λk hk=>by cases hk);clear eF;obtain⟨a3,Li,jM,_,_,_⟩:=bz Cm;generalize([]++[(⟨(s,t),n,(u,j)⟩:dr)]).length=pr at jM;subst jM;replace ps:=ak D ps;replace ce:=ak D ce;have xX:w4.frozen? (K C (l.length*4+3))=false:=(D.frozen (p:=(K C (l.length*4+3))) agY).trans Ll;have hZ:=ag D;clear D;have fF:=ag Cm;clear Cm))
   go_end0
   exact⟨rfl,_,bR.o.upd hZ.o (by have :=fF.o;unfold lA;rw[bn rfl];exact ii this (b6 _))⟩
  go_wp2;go_end0
  exact⟨rfl,_,bR.o.upd (ca _ _) (by unfold lA;rw[a7 jp];exact Th _)⟩
structure cK where
 key:ByteArray
 id:PId
 aj:List dr
structure bA where
 id:PId
 aS:Bool
 ss:List cK
def bX.p (s:bX):cK:=⟨s.key,s.id,s.aj⟩
def ep.p (o:ep):bA:=⟨o.id,o.aS,o.ss.map bX.p⟩
structure gG (B t:Nat) (w:World) (d:Nat) (v:Value) (os:List ep):Prop where
 ao:w.heap[d]?=some (.cells #[v] 277)
 hB:B<=d
 al:Az B w v os
 hn:os.length<=t+1
 aj:∀o∈os,o.ss.length<=t/\∀s∈o.ss,s.aj.length<=t
theorem gG.cell{w v}(h:gG b d w a v r):w.cell? (H a)=some v:=by simp[World.cell?,h.ao]
theorem gG.Cn(h:gG b d c a i r):c.frozen? (H a)=false:=by simp[World.frozen?,h.ao]
theorem gG.lt{t w v}(h:gG b t w a v r):a<w.heap.size:=(e8.1 h.ao).1
theorem gG.ak{B t w d v a}{w':World}(h:gG B t w d v a)(b:J w w'):gG B t w' d v a:=
 ⟨by rw[b.block d h.lt];exact h.ao,h.hB,h.al.ak b,h.hn,h.aj⟩
theorem gG.mono{w v}(h:gG a b w e v r)(g:b<=d):gG a d w e v r:=
 ⟨h.ao,h.hB,h.al,by have :=h.hn;omega,λo c=>⟨by have :=(h.aj o c).1;omega,λs f=>by have :=(h.aj o c).2 s f;omega⟩⟩
theorem agZ{l:List ep}{k:Nat}(b:k<l.length)(a:Value)(c:List bX):
  (l.set k ⟨l[k].id,l[k].aS,a,c⟩).flatMap nd=(l.flatMap nd).set (k*4+3) a:=by
 induction l generalizing k with
 |nil=>simp at b
 |cons s l ih=>
  cases k with
  |zero=>simp[nd,jI]
  |succ k=>
   have :=ih (k:=k) (by simp_all);simp only[KY,jI,OD];rw[this];have e:(k+1)*4+3=(nd s).length+(k*4+3):=by simp[nd];omega
   rw[e,atA _ _ (by omega)];congr 1;congr 1;omega
theorem gG.row{w v}(h:gG a b w d v r){k:Nat}(j:k<r.length):
  ∃f c g,v=aa f r.length c/\a<=f/\w.heap[f]?=some (.cells g 272)/\r.length<=c/\c<=maxLen/\g.size=c*4/\g.toList.take (r.length*4)=r.flatMap nd/\
   g[k*4+2]?=some (.bool r[k].aS)/\g[k*4+3]?=some r[k].ix:=by
 rcases h.al.1.2 with⟨_,e⟩|⟨f,c,l,m,n,o,p,q,s,i⟩
 .omega
 refine⟨f,c,l,m,n,o,p,q,s,i,?_,?_⟩
 .have :=S8 nd 4 (λ_=>rfl) r k 2 j (by omega);rw[<-i,wq,bn (by omega)]at this;simpa[nd]using this
 have :=S8 nd 4 (λ_=>rfl) r k 3 j (by omega);rw[<-i,wq,bn (by omega)]at this;simpa[nd]using this
theorem O6{w}(b:jm a w i h)(e:∀g,i.ownBlock=some g->c.heap[g]?=w.heap[g]?)(f:∀(g:Nat) (d:Array Value),w.heap[g]?=some (.cells d 243)->c.heap[g]?=w.heap[g]?):jm a c i h:=by
 refine⟨⟨b.1.1,?_⟩,λs j=>ZG (b.2 s j) f⟩;rcases b.1.2 with n|⟨g,k,d,rfl,l,m,rest⟩
 .simp_all
 exact .inr ⟨g,k,d,rfl,l,by rw[e g rfl];exact m,rest⟩
theorem ag0(u:a<r.length)(l:∀(c j:Nat) (f:c<r.length) (k:j<r.length),c≠j->r[c].ix.ownBlock=none\/r[c].ix.ownBlock≠r[j].ix.ownBlock)(m:∀o∈r,∀g,o.ix.ownBlock=some g->g<b)(d:i.ownBlock=r[a].ix.ownBlock\/∀g,i.ownBlock=some g->b<=g):
  ∀(c j:Nat) (f:c<(r.set a ⟨r[a].id,r[a].aS,i,h⟩).length) (k:j<(r.set a ⟨r[a].id,r[a].aS,i,h⟩).length),c≠j->
   (r.set a ⟨r[a].id,r[a].aS,i,h⟩)[c].ix.ownBlock=none\/(r.set a ⟨r[a].id,r[a].aS,i,h⟩)[c].ix.ownBlock≠(r.set a ⟨r[a].id,r[a].aS,i,h⟩)[j].ix.ownBlock:=by
 intro c j f k n;rw[F7]at f k;by_cases p:a=c
 .subst p;rw[afS,SF (by omega)];rcases d with d|d
  .simp_all
  cases q:i.ownBlock with
  |none=>exact .inl rfl
  |some g=>
   right
   intro e;have :=m r[j] (dB _) g e.symm;have :=d g q;omega
 by_cases s:a=j
 .subst s;rw[afS,SF (by omega)];rcases d with d|d
  .rw[d];exact l c a f k n
  cases t:r[c].ix.ownBlock with
  |none=>exact .inl rfl
  |some g=>
   right
   intro e;have :=m r[c] (dB _) g t;have :=d g (show i.ownBlock=some g from e.symm);omega
 rw[SF (by omega),SF (by omega)];exact l c j f k n
structure nN (B:Nat) (w w':World):Prop where
 dn:Below B w w'
 types:∀(g:Nat) (c:Array Value) (e:TypeId) (f:Nat×Nat),w.heap[g]?=some (.cells c e f)->e≠277->e≠272->e≠269->w'.heap[g]?=w.heap[g]?
theorem nN.cL{w w':World}(h:J w w')(b:a<=w.heap.size):nN a w w':=
 ⟨h.mono b,λg _ _ _ c _ _ _=>h.block g (e8.1 c).1⟩
theorem nN.trans{B a b c}(h:nN B a b)(k:nN B b c):nN B a c:=
 ⟨h.dn.trans k.dn,λg cs e f l d i j=>by have m:=h.types g cs e f l d i j;rw[k.types g cs e f (by simp_all) d i j,m]⟩
theorem nN.row{w w'}(h:nN b w w'){base:Nat}{size:Nat}{v:Value}(c:w.ownsRow base y size v a E)(e:y≠277)(f:y≠272)(i:y≠269):w'.ownsRow base y size v a E:=by
 refine⟨c.1,?_⟩;rcases c.2 with m|⟨g,j,k,rfl,l,d,rest⟩
 .simp_all
 exact .inr ⟨g,j,k,rfl,l,by rw[h.types g _ _ _ d e f i];exact d,rest⟩
theorem gG.upd{v}(l:gG b e j d v r){k:Nat}(B:k<r.length){cap:Nat}{C:Array Value}(S:v=aa a r.length cap)(x:j.heap[a]?=some (.cells C 272))(u:oS b j n a (k*4) C r[k].ix h)(U:h.length<=e+1)(W:∀s∈h,s.aj.length<=e+1):
  (∃D,gG b (e+1) n d v (r.set k ⟨r[k].id,r[k].aS,D,h⟩))/\nN b j n:=by
 subst S;obtain⟨D,X,Y,dJ⟩:=u.ex;have y:jm b j r[k].ix r[k].ss:=l.al.2.1 _ (dB _);have at0:=(cX l.al.1 a rfl).1;have ag2:=l.lt;have ag3:d≠a:=by intro m;subst m;exact absurd (cQ l.ao x) (by decide)
 have ag4:some d≠r[k].ix.ownBlock:=by intro m;exact iX y.1 m.symm l.ao (by decide)
 have N:=λo w g q=>(cX (l.al.2.1 o w).1 g q).2
 have ag5:∀(g:Nat) (z:Array Value),j.heap[g]?=some (.cells z 243)->n.heap[g]?=j.heap[g]?:=by
  intro g z q;refine u.other g (e8.1 q).1 ?_ ?_
  .intro m;simp_all
  intro m;obtain⟨c,hc⟩:=b0 y.1 m.symm;simp_all
 refine⟨⟨D,?_,l.hB,⟨?_,?_,ag0 B l.al.2.2 N dJ⟩,?_,?_⟩,?_⟩
 .rw[u.other d ag2 ag3 ag4];exact l.ao
 .rcases l.al.1.2 with⟨t,_⟩|⟨g,c,z,t,ah,q,P,E,F,a8⟩
  .injection t with t;cases t
  injection t with t _ aD;injection t with t;injection t with t;subst t;subst aD;have fG:z=C:=by rw[x]at q;injection q with q;injection q with q;exact q.symm
  subst fG;refine⟨?_,.inr ⟨a,cap,_,by rw[F7],ah,Y,?_,E,?_,?_⟩⟩
  .rw[rB nd 4 (λ_=>rfl)]
  .rw[F7];exact P
  .simpa using F
  rw[agZ B,F7,atB,<-a8,List.take_set]
 .intro o w;obtain⟨p,Q,rfl⟩:=mm.1 w;rw[F7]at Q;by_cases I:k=p
  .subst I;rw[afS];exact X
  rw[SF I];have R:=l.al.2.1 r[p] (dB _);refine O6 R (λg q=> ?_) ag5;refine u.other g (N _ (dB _) g q) ?_ ?_
  .intro m;subst m;exact iX R.1 q x (by decide)
  intro m;rcases l.al.2.2 p k Q B (eE I) with L|L
  .rw[L]at q;cases q
  exact L (by rw[q,m])
 .rw[F7];have :=l.hn;omega
 .intro o w;rcases afQ w with w|rfl
  .exact⟨by have :=(l.aj o w).1;omega,λs aj=>by have :=(l.aj o w).2 s aj;omega⟩
  exact⟨U,W⟩
 refine⟨⟨u.os,u.tape,u.output,u.size,λi hi=>u.other i (by have :=l.hB;omega) (by omega) (λm=>by have :=(cX y.1 i m.symm).1;omega)⟩,λg c m f q P E F=>u.other g (e8.1 q).1 (λM=> ?_) (λM=> ?_)⟩
 .subst M;exact E (cQ q x)
 obtain⟨cB,cD⟩:=b0 y.1 M.symm;exact F (cQ q cD)
theorem ZM {α β:Type} (f:α->β) (p:β->Bool) (l:List α):di p (l.map f)=di (λx=>p (f x)) l:=by unfold di;rw[List.findIdx?_map];rfl
def gA (key:ByteArray) (x:PId) (s:cK):Bool:=(s.key.toList==key.toList)&&fv s.id.1 s.id.2 x.1 x.2
def qK (a:ByteArray) (x:PId):cK:=⟨a,x,[]⟩
theorem O9(a:ByteArray)(x:PId)(l:List bX):di (gA a x) (l.map bX.p)=di (iG a x) l:=by rw[ZM];rfl
def te (l:List cK) (n:Nat) (s:cK):List cK:=l.take n++s::l.drop n
def sm (l:List cK) (b x:PId):List cK:=
 if fv b.1 b.2 0 0 then te l 0 (qK ⟨#[]⟩ x)
 else if di (gA ⟨#[]⟩ b) l<0 then l
 else te l ((di (gA ⟨#[]⟩ b) l).toNat+1) (qK ⟨#[]⟩ x)
theorem ag6(l:List bX)(n:Nat)(a:ByteArray)(x:PId):(tX l n (lQ a x)).map bX.p=te (l.map bX.p) n (qK a x):=by simp[tX,te,lQ,qK,bX.p,Cd,afT]
theorem ag7(l:List bX)(b x:PId):(ze l b x).map bX.p=sm (l.map bX.p) b x:=by
 unfold ze sm;rw[O9];split
 .rfl
 split
 .rfl
 exact ag6 _ _ _ _
theorem ZN{s y:bX}(b:y∈tX h a s):y∈h\/y=s:=by
 unfold tX at b;rw[dZ,ft]at b;rcases b with b|b|b
 .exact .inl (mo b)
 .simp_all
 exact .inl (tS b)
theorem ZO(l:List bX)(n:Nat)(s:bX):(tX l n s).length=l.length+1:=by unfold tX;rw[dh,iq,gU,ly];omega
theorem ZP(l:List bX)(b x:PId):(ze l b x).length<=l.length+1/\∀y∈ze l b x,y∈l\/y.aj=[]:=by
 unfold ze;split
 .exact⟨by rw[ZO];omega,λy a=>(ZN a).imp id λe=>by rw[e];rfl⟩
 split
 .simp_all
 exact⟨by rw[ZO];omega,λy a=>(ZN a).imp id λe=>by rw[e];rfl⟩
theorem ag8 (B g i:Nat) (j:Array Value) (v:Value) (l:List bX) (b c d f:Int) (w:World) (n:w.heap[g]?=some (.cells j 272)) (o:j[i+3]?=some v)
  (h:jm B w v l) (p:l.length<1000000) (q:B<=w.heap.size):
  O 214 #[.pointer (some (K g i)),.agg #[A b,A c],.agg #[A d,A f]] w λe s=>e=ad (.tuple #[])/\oS B w s g i j v (ze l (b,c) (d,f)):=by
 cases m:fv b c 0 0
 .have x:=Ci (iG ⟨#[]⟩ (b,c)) l;have y:=Gj (iG ⟨#[]⟩ (b,c)) l;by_cases z:di (iG ⟨#[]⟩ (b,c)) l<0
  .have e:ze l (b,c) (d,f)=l:=by unfold ze;simp_all
   rw[e];exact agB B g i j v l b c d f w n o h p m (by omega)
  obtain⟨k,r⟩:=Ce (a:=di (iG ⟨#[]⟩ (b,c)) l) (by omega);have e:ze l (b,c) (d,f)=tX l (k+1) (lQ ⟨#[]⟩ (d,f)):=by unfold ze;simp[m,r];omega
  rw[e];exact agA B g i j v l b c d f k w n o h p q m r
 rw[Gd]at m;injection m with t u;subst t;subst u;exact agz B g i j v l d f w n o h p q
def mS (l:List cK) (d:Bool) (a:ByteArray) (x:PId) (b:List PId) (c:Int) (y:dr):List cK:=
 if di (gA a x) l<0 then
  if d then l else l++[⟨a,(0,0),lA b [] c y⟩]
 else l.modify (di (gA a x) l).toNat λs=>⟨s.key,s.id,lA b s.aj c y⟩
theorem ag9 (B c b:Nat) (d:Array Value) (v:Value) (l:List bX)
  (u x y z C g i D E n F I:Int) (L:Bool) (j:ByteArray) (o:Value) (w:World)
  (k:w.heap[c]?=some (.cells d 272)) (p:d[b+3]?=some v) (M:d[b+2]?=some (.bool true)) (h:jm B w v l)
  (N:∃q no r,o=.slice q no r) (R:di (iG j (g,i)) l= -1):
  O 215 #[.pointer (some (K c b)),.agg #[A u,A x,A y,.bool L,A z,A C,.string j,A g,A i,A D,A E,A n,A F,A I,o]] w λe P=>e=ad (.tuple #[])/\oS B w P c b d v l:=by
 obtain⟨a,s,rfl,S,U,W⟩:=bz h.1;obtain⟨q,no,r,rfl⟩:=N;have f:w.cell? (K c (b+3))=some (.slice a l.length s):=by simp[World.cell?,k,p]
 have t:w.cell? (K c (b+2))=some (.bool true):=by simp[World.cell?,k,M]
 have X:=e7 w _ f;go_enter func215,ntmps215;go_wp2_with (go_at_call 172;go_must (refine(Gh B c b (.slice a l.length s) l j g i _ (by exact ak (aV w _) f) (by exact h.ak (aV w _))).mono ?_;rintro e Y ⟨rfl,Q⟩;have m:=(aV w _).trans (Q.mono (by simp));replace f:=ak m f;replace t:=ak m t))
 refine ey (Iw rfl _ _ _) rfl ?_;exact⟨rfl,oS.same k p h m⟩
theorem Ts {α:Type} (f:α->α) (l:List α) (k:Nat) (h:k<l.length):l.modify k f=l.set k (f l[k]):=by
 apply xN;intro j;rw[YH,YI];by_cases e:k=j
 .subst e;simp[h]
 simp[e]
theorem ZQ(b:List PId)(a:List dr)(c:Int)(y:dr):(lA b a c y).length<=a.length+1:=by unfold lA;have :(unnamed b a).length<=a.length:=r7 _ _;rw[dh];split <;>simp <;>omega
theorem aha (B t u g:Nat) (i:Array Value) (v:Value) (l:List bX) (jQ:l.length<=t) (C:∀s∈l,s.aj.length<=t) (htt:t<100000) (Q:Bool)
  (j m o D E c d F I n q r:Int) (L:Bool) (f:ByteArray) (M:Value) (x:List PId) (w:World)
  (R:w.heap[u]?=some (.cells i 272)) (S:i[g+3]?=some v) (X:i[g+2]?=some (.bool Q)) (h:jm B w v l) (Y:B<=w.heap.size) (U:fu w M x):
  O 215 #[.pointer (some (K u g)),.agg #[A j,A m,A o,.bool L,A D,A E,.string f,A c,A d,A F,A I,A n,A q,A r,M]] w λe N=>e=ad (.tuple #[])/\∃P,oS B w N u g i v P/\P.map bX.p=mS (l.map bX.p) Q f (c,d) x o ⟨(j,m),n,(q,r)⟩/\P.length<=t+1/\∀s∈P,s.aj.length<=t+1:=by
 have aL:=Ci (iG f (c,d)) l;have gB:=Gj (iG f (c,d)) l;by_cases W:di (iG f (c,d)) l<0
 .cases Q with
  |true=>
   obtain⟨jO,co,rfl,_⟩:=bz U;refine(ag9 B u g i v l j m o D E c d F I n q r L f _ w R S X h ⟨_,_,_,rfl⟩ (by omega)).mono λe N ⟨y,z⟩=>⟨y,l,z,?_,by omega,λs b=>by have :=C s b;omega⟩
   unfold mS;rw[O9,bn W];rfl
  |false=>
   refine(agW B u g i v l (by omega) j m o D E c d F I n q r L f M x w R S X h Y U (by omega)).mono λe N ⟨y,jo,z⟩=>⟨y,_,z,?_,by simp;omega,λs b=> ?_⟩
   .unfold mS;rw[O9,bn W];simp[bX.p]
   rcases dZ.1 b with b|b
   .have :=C s b;omega
   simp at b;subst b;have :=ZQ x [] o ⟨(j,m),n,(q,r)⟩;simp at this⊢;omega
 obtain⟨k,hk⟩:=Ce (a:=di (iG f (c,d)) l) (by omega);have ej:k<l.length:=by omega
 have Eh:=C l[k] (dB _);refine(agN B u g i v l k ej l[k].aj rfl (by omega) j m o D E c d F I n q r L f M x w R S h Y U hk).mono λe N ⟨y,jo,z⟩=>⟨y,_,z,?_,by rw[F7];omega,λs b=> ?_⟩
 .unfold mS;rw[O9,a7 W,hk,List.map_set,Ts _ _ _ (by simpa using ej)];simp[bX.p]
 rcases afQ b with b|rfl
 .have :=C s b;omega
 have :=ZQ x l[k].aj o ⟨(j,m),n,(q,r)⟩;simp;omega
structure bT where
 id:PId
 aM:Int
 aS:Bool
 eT:PId
 key:ByteArray
 hx:PId
 ik:PId
 kW:Int
 obj:PId
 old:List PId
variable {z Q:List bT}
def bT.held (p:bT):dr:=⟨p.id,p.kW,p.obj⟩
def kK (x:PId) (o:bA):Bool:=fv o.id.1 o.id.2 x.1 x.2
def hJ (p:bT) (o:bA):bA:=
 if p.aM=2 then(if o.aS then⟨o.id,o.aS,sm o.ss p.ik p.id⟩ else o)
 else if o.aS=p.key.toList.isEmpty then⟨o.id,o.aS,mS o.ss o.aS p.key p.hx p.old p.aM p.held⟩ else o
def cC (d:List bA) (p:bT):List bA:=
 if p.aM=1 then d++[⟨p.id,p.aS,[]⟩]
 else if di (kK p.eT) d<0 then d
 else d.modify (di (kK p.eT) d).toNat (hJ p)
theorem Pb(x:PId)(a:List ep):di (kK x) (a.map ep.p)=di (mO x) a:=by rw[ZM];rfl
def opV (p:bT) (a:Value):Value:=.agg #[A p.id.1,A p.id.2,A p.aM,.bool p.aS,A p.eT.1,A p.eT.2,.string p.key,A p.hx.1,A p.hx.2,A p.ik.1,A p.ik.2,A p.kW,A p.obj.1,A p.obj.2,a]
theorem gG.more{v}(h:gG b d k a v r)(p:J k j)(q:j.grownBy c v.ownBlock)(E:c.ownsRow b 272 4 P (r.length+1) ((r++[(⟨F,L,.slice none 0 0,[]⟩:ep)]).flatMap nd)):
  gG b (d+1) (c.setCell (H a) P) a P (r++[(⟨F,L,.slice none 0 0,[]⟩:ep)])/\nN b k (c.setCell (H a) P):=by
 have t:=h.ak p;have hdv:some a≠v.ownBlock:=by intro e;exact iX h.al.1 e.symm h.ao (by decide)
 have I:c.heap[a]?=some (.cells #[v] 277):=by rw[q.block a t.lt hdv];exact t.ao
 have z:∀i,i≠a->(c.setCell (H a) P).heap[i]?=c.heap[i]?:=λi B=>mn _ _ _ _ B
 have M:∀g,v.ownBlock=some g->∃l,j.heap[g]?=some (.cells l 272):=λg q=>b0 t.al.1 q
 have N:∀(g:Nat) (l:Array Value) (e:TypeId),j.heap[g]?=some (.cells l e)->e≠272->e≠277->(c.setCell (H a) P).heap[g]?=j.heap[g]?:=by
  intro g l e Q R C;have kI:g≠a:=by intro u;subst u;exact C (cQ Q t.ao)
  rw[z g kI,q.block g (e8.1 Q).1 (λu=>by obtain⟨cB,S⟩:=M g u.symm;simp_all)]
 refine⟨⟨?_,h.hB,⟨?_,?_,?_⟩,?_,?_⟩,?_⟩
 .simp[World.setCell,D4,I]
 .refine⟨by simpa using E.1,?_⟩;rcases E.2 with⟨U,aD⟩|⟨g,cap,cur,U,W,w,rest⟩
  .omega
  refine .inr ⟨g,cap,cur,by simpa using U,W,?_,by simpa using rest⟩;rw[z g (by intro e;subst e;exact absurd (cQ w I) (by decide))];exact w
 .intro o n;rcases dZ.1 n with n|n
  .refine O6 (t.al.2.1 o n) (λg iH=> ?_) (λg l D=>N g l _ D (by decide) (by decide));obtain⟨l,D⟩:=b0 (t.al.2.1 o n).1 iH;exact N g l _ D (by decide) (by decide)
  simp at n;subst n;exact⟨hg _ _ _ _,λs x=>by simp at x⟩
 .intro i m B aB kb;rw[dh,wu]at B aB;by_cases y:i<r.length
  .by_cases X:m<r.length
   .rw[Cf y,Cf X];exact h.al.2.2 i m y X kb
   rw[Cf y];have :m=r.length:=by omega
   subst this;cases W:r[i].ix.ownBlock with
   |none=>exact .inl rfl
   |some g=>right;simp[Value.ownBlock]
  have :i=r.length:=by omega
  subst this
  left;simp[Value.ownBlock]
 .rw[dh];have :=h.hn;simp;omega
 .intro o n;rcases dZ.1 n with n|n
  .exact⟨by have :=(h.aj o n).1;omega,λs x=>by have :=(h.aj o n).2 s x;omega⟩
  simp at n;subst n;exact⟨by simp,λs x=>by simp at x⟩
 have hBd:=h.hB;refine⟨⟨q.os.trans p.os,q.tape.trans p.tape,q.output.trans p.output,?_,λi B=> ?_⟩,λg l e f w R C ax=> ?_⟩
 .have :=q.size;have :=p.size;simp[World.setCell];omega
 .have y:i<k.heap.size:=by have :=h.lt;omega
  rw[z i (by omega),q.block i (by have :=p.size;omega) (λe=>by have :=(cX h.al.1 i e.symm).1;omega),p.block i y]
 have Y:=(e8.1 w).1;have Tu:j.heap[g]?=some (.cells l e f):=by rw[p.block g Y];exact w
 rw[z g (λu=>by subst u;exact R (cQ Tu t.ao)),q.block g (by have :=p.size;omega) (λu=>by obtain⟨cB,S⟩:=M g u.symm;exact C (cQ Tu S)),p.block g Y]
theorem ahb{a:Act}(i:M.guard=none)(s x:Operand)(k:M.op=.call {callee:=.builtin .append,args:= #[s,x],argTypes:= #[275,275]})(b:Nat)(v:Value)(l:List ep)(m:a.eval s=v)(n:c.ownsRow b 272 4 v l.length (l.flatMap nd))(g d:Nat)(y:ep)(o:a.eval x=aa g 1 d)(p:∀j u,(nd y)[j]?=some u->c.cell? (K g j)=some u)(q:∀u∈nd y,u.oneCell'=true)(t:l.length<10000000)(r:b<=c.heap.size)(h:∀e f,f.ownsRow b 272 4 e (l.length+1) ((l++[y]).flatMap nd)->c.grownBy f v.ownBlock->lB c v e->I (a.put M.dst e) f):
  if Region.wanted M (yielded B a.tmps)=true then Oper.wp prog M a c I C else N:=
 AI nd 4 48 275 272 (.agg #[A 0,A 0,.bool false,.slice none 0 0]) (by kernel_rfl) underlying275 rfl (by omega) (λ_=>rfl)
  i s x k b v l m n g d y o p q (by omega) (by unfold maxLen;omega) r h
theorem ahc{a:Int}:∀j u,(nd ⟨(D,a),L,.slice none 0 0,[]⟩)[j]?=some u->(c.alloc (.cells #[A D,A a,.bool L,.slice none 0 0] 272)).cell? (V c j)=some u:=by
 intro j u b;rw[YF _ _ _ _ rfl]
 match j with
 |0=>assumption
 |1=>assumption
 |2=>assumption
 |3=>assumption
 |j+4=>assumption
theorem ahd:∀u∈nd ⟨F,L,.slice none 0 0,[]⟩,u.oneCell'=true:=by intro u a;simp[nd]at a;rcases a with rfl|rfl|rfl|rfl<;>rfl
theorem ahe (B t d:Nat) (v:Value) (c:List ep) (aI:t<100000) (y:Value) (f g M N P Q R S n U z:Int) (i:Bool) (W:ByteArray) (w:World) (h:gG B t w d v c) (X:∃C no D,y=.slice C no D):
  O 192 #[Z d,.agg #[A f,A g,A 1,.bool i,A M,A N,.string W,A P,A Q,A R,A S,A n,A U,A z,y]] w λe E=>e=ad (.tuple #[])/\∃Y,gG B (t+1) E d Y (c++[⟨(f,g),i,.slice none 0 0,[]⟩])/\nN B w E:=by
 obtain⟨a,F,rfl,kt,dM,ku⟩:=bz h.al.1;obtain⟨C,no,D,rfl⟩:=X;have s:=h.cell;have u:=h.Cn;have x:=h.lt;have hBd:=h.hB;have zk:=h.hn;have hBw:B<=w.heap.size:=by omega
 have I:Hq (some d≠(Value.slice a c.length F).ownBlock):=by intro e;exact iX h.al.1 e.symm h.ao (by decide)
 have k:=ag h;go_enter func192,ntmps192;go_wp2;generalize l:w.alloc _=b;have j:J w b:=by rw[<-l];exact aV w _
 have gX:b.cell? (V w 0)=some (A f):=by rw[<-l];simp
 have q1:b.cell? (V w 1)=some (A g):=by rw[<-l];simp
 have wB:b.cell? (V w 3)=some (.bool i):=by rw[<-l];simp
 replace s:=ak j s;replace u:=(j.frozen (p:=(H d)) x).trans u;have hz0:=j.size;replace x:d<b.heap.size:=by omega
 have sk:w.heap.size<b.heap.size:=e7 b _ gX;replace k:=ag (k.o.ak j);have bE:=ag j;go_region_law (refine ahb rfl (.tmp 13) (.tmp 19) rfl B (.slice a c.length F) c (by rfl) ?h1 b.heap.size 1 ⟨(f,g),i,.slice none 0 0,[]⟩ (by rfl) ?h2 ?ax ?a8 ?cP ?_;(case h1=>exact k.o.al.1.alloc _);(case h2=>exact ahc);(case ax=>exact ahd);(case a8=>omega);(case cP=>simp;omega);intro z w2 m q lj;have r:J b (b.alloc (.cells #[A f,A g,.bool i,.slice none 0 0] 272)).drew:=(aV b _).drew;have iI:=q.cell (ak r s) I.o;have tY:=(YN (a:=(H d)) (q.block d (by simp;omega) I.o)).trans ((r.frozen (p:=(H d)) x).trans u);have L:=ag (k.o.more r q m);obtain⟨a2,bq,ka,_,_,_⟩:=bz m;subst ka;clear r q lj;have mr:=ag m;clear m)
 all_goals(try go_wp2)
 all_goals refine ey (Iw rfl _ _ _) rfl ?_
 all_goals exact⟨rfl,_,L.o.1,(nN.cL bE.o hBw).trans L.o.2⟩
theorem ahf (B t d:Nat) (v:Value) (b:List ep) (I:t<100000) (i:Value) (m:List PId) (o p j c f q r s u n x y:Int) (z:Bool) (C:ByteArray) (w:World) (h:gG B t w d v b) (k:fu w i m)
  (L:¬j=1) (M:di (mO (c,f)) b= -1):
  O 192 #[Z d,.agg #[A o,A p,A j,.bool z,A c,A f,.string C,A q,A r,A s,A u,A n,A x,A y,i]] w λe l=>e=ad (.tuple #[])/\gG B t l d v b/\nN B w l:=by
 obtain⟨N,P,rfl,_,_,_⟩:=bz k;have Q:=h.lt;have D:B<=w.heap.size:=by have :=h.hB;omega
 have R:=ag k;obtain⟨a,E,rfl,_,_,_⟩:=bz h.al.1;have S:=h.cell;go_enter func192,ntmps192;go_wp2_with (go_at_call 174;go_must (refine(Gf B d (.slice a b.length E) b c f _ (by exact(h.ak (aV w _)).cell) (by exact(h.ak (aV w _)).al)).mono ?_;rintro e U ⟨rfl,F⟩;have g:=(aV w _).trans (F.mono (by simp));have W:=g.size))
 refine ey (Iw rfl _ _ _) rfl ?_;exact⟨rfl,h.ak g,nN.cL g D⟩
theorem ahg (B t d:Nat) (v:Value) (c:List ep) (Y:t<100000) (m:Value) (o:List PId) (p q l g i r s u x n y z:Int) (C:Bool) (D:ByteArray) (w:World) (h:gG B t w d v c) (E:fu w m o)
  (dK:¬l=1) (k:Nat) (N:k<c.length) (wz:di (mO (g,i)) c=(k:Int)) (P:l=2) (Q:c[k].aS=false):
  O 192 #[Z d,.agg #[A p,A q,A l,.bool C,A g,A i,.string D,A r,A s,A u,A x,A n,A y,A z,m]] w λe F=>e=ad (.tuple #[])/\gG B t F d v c/\nN B w F:=by
 obtain⟨R,S,rfl,_,_,_⟩:=bz E;have gW:=h.lt;have U:B<=w.heap.size:=by have :=h.hB;omega
 have zf:=ag E;obtain⟨I,W,cO,rfl,IS,L,Ck,dM,jq,sn,M,X⟩:=h.row N;have j:w.cell? (K I (k*4+2))=some (.bool c[k].aS):=by simp[World.cell?,L,M]
 have IT:=e7 w _ j;have mu:=ag ((h.aj c[k] (dB _)));have p8:=ag (h.al.2.1 c[k] (dB _));have xT:=ag L;have tf:=ag M;have Gu:=ag X;rw[Q]at j;subst P;go_enter func192,ntmps192;go_wp2_with (go_at_call 174;go_must (refine(Gf B d (aa I c.length W) c g i _ (by exact(h.ak (aV w _)).cell) (by exact(h.ak (aV w _)).al)).mono ?_;rintro e w1 ⟨rfl,b⟩;have f:=(aV w _).trans (b.mono (by simp));have va:=ak (a:=(V w 0)) (v:=A p) b (by simp);have Gl:=ak (a:=(V w 1)) (v:=A q) b (by simp);have Gm:=ak (a:=(V w 2)) (v:=A 2) b (by simp);have Tv:=ak (a:=(V w 3)) (v:=.bool C) b (by simp);have Tw:=ak (a:=(V w 4)) (v:=A g) b (by simp);have Tx:=ak (a:=(V w 5)) (v:=A i) b (by simp);have Lk:=ak (a:=(V w 6)) (v:=.string D) b (by simp);have Ty:=ak (a:=(V w 7)) (v:=A r) b (by simp);have Tz:=ak (a:=(V w 8)) (v:=A s) b (by simp);have TA:=ak (a:=(V w 9)) (v:=A u) b (by simp);have TB:=ak (a:=(V w 10)) (v:=A x) b (by simp);have Gn:=ak (a:=(V w 11)) (v:=A n) b (by simp);have Gp:=ak (a:=(V w 12)) (v:=A y) b (by simp);have Gq:=ak (a:=(V w 13)) (v:=A z) b (by simp);have IJ:=ak (a:=(V w 14)) (v:=.slice R o.length S) b (by simp);replace h.cell:=ak f h.cell;replace j:=ak f j;have hz1:=f.size))
 refine ey (Iw rfl _ _ _) rfl ?_;exact⟨rfl,h.ak f,nN.cL f U⟩
theorem ahh (B t d:Nat) (v:Value) (b:List ep) (aI:t<100000) (y:Value) (z:List PId) (g i r o p C D j l n E F:Int) (I:Bool) (L:ByteArray) (w:World) (h:gG B t w d v b) (M:fu w y z)
  (dK:¬r=1) (k:Nat) (N:k<b.length) (wz:di (mO (o,p)) b=(k:Int)) (U:r=2) (W:b[k].aS=true):
  O 192 #[Z d,.agg #[A g,A i,A r,.bool I,A o,A p,.string L,A C,A D,A j,A l,A n,A E,A F,y]] w λe P=>e=ad (.tuple #[])/\(∃X,gG B (t+1) P d v (b.set k ⟨b[k].id,b[k].aS,X,ze b[k].ss (j,l) (g,i)⟩))/\nN B w P:=by
 obtain⟨Y,co,rfl,_,_,_⟩:=bz M;have gW:=h.lt;have hBw:B<=w.heap.size:=by have :=h.hB;omega
 have zf:=ag M;obtain⟨m,cap,cO,rfl,IS,u,Ck,dM,jq,sn,Q,lS⟩:=h.row N;have q:w.cell? (K m (k*4+2))=some (.bool b[k].aS):=by simp[World.cell?,u,Q]
 have R:=e7 w _ q;have x:=(h.aj b[k] (dB _));have tf:=ag Q;rw[W]at q;subst U;go_enter func192,ntmps192;go_wp2_with (first
  |(go_at_call 174;go_must (refine(Gf B d (aa m b.length cap) b o p _ (by exact(h.ak (aV w _)).cell) (by exact(h.ak (aV w _)).al)).mono ?_;rintro e w1 ⟨rfl,c⟩;have f:=(aV w _).trans (c.mono (by simp));have va:=ak (a:=(V w 0)) (v:=A g) c (by simp);have Gl:=ak (a:=(V w 1)) (v:=A i) c (by simp);have Gm:=ak (a:=(V w 2)) (v:=A 2) c (by simp);have Tv:=ak (a:=(V w 3)) (v:=.bool I) c (by simp);have Tw:=ak (a:=(V w 4)) (v:=A o) c (by simp);have Tx:=ak (a:=(V w 5)) (v:=A p) c (by simp);have Lk:=ak (a:=(V w 6)) (v:=.string L) c (by simp);have Ty:=ak (a:=(V w 7)) (v:=A C) c (by simp);have Tz:=ak (a:=(V w 8)) (v:=A D) c (by simp);have TA:=ak (a:=(V w 9)) (v:=A j) c (by simp);have TB:=ak (a:=(V w 10)) (v:=A l) c (by simp);have Gn:=ak (a:=(V w 11)) (v:=A n) c (by simp);have Gp:=ak (a:=(V w 12)) (v:=A E) c (by simp);have Gq:=ak (a:=(V w 13)) (v:=A F) c (by simp);have IJ:=ak (a:=(V w 14)) (v:=.slice Y z.length co) c (by simp);replace h.cell:=ak f h.cell;replace q:=ak f q;have hz1:=f.size))
  |(go_at_call 214;go_must (refine(ag8 B m (k*4) cO b[k].ix b[k].ss j l g i w1 (by rw[f.block m R];exact u) (by exact lS) (by exact(h.al.2.1 b[k] (dB _)).ak f) (by have :=x.1;omega) (by omega)).mono ?_;rintro e w2 ⟨rfl,hu⟩;have S:=(h.ak f).upd N rfl (by rw[f.block m R];exact u) hu (by have :=(ZP b[k].ss (j,l) (g,i)).1;have :=x.1;omega) (λs aj=>by rcases(ZP b[k].ss (j,l) (g,i)).2 s aj with h|h;(have :=x.2 s h;omega);(rw[h];simp)))))
 refine ey (Iw rfl _ _ _) rfl ?_;exact⟨rfl,S.1,(nN.cL f hBw).trans S.2⟩
theorem ahi (B t d:Nat) (v:Value) (c:List ep) (Y:t<100000) (p:Value) (q:List PId) (r s g i j u x y z n C D:Int) (E:Bool) (m:ByteArray) (w:World) (h:gG B t w d v c) (F:fu w p q)
  (dK:¬g=1) (k:Nat) (P:k<c.length) (wz:di (mO (i,j)) c=(k:Int)) (dx:¬g=2) (o:Bool) (Q:c[k].aS=o) (he:m.toList.isEmpty= !o):
  O 192 #[Z d,.agg #[A r,A s,A g,.bool E,A i,A j,.string m,A u,A x,A y,A z,A n,A C,A D,p]] w λe I=>e=ad (.tuple #[])/\gG B t I d v c/\nN B w I:=by
 obtain⟨R,S,rfl,_,_,_⟩:=bz F;have gW:=h.lt;have U:B<=w.heap.size:=by have :=h.hB;omega
 have zf:=ag F;obtain⟨L,W,cO,rfl,IS,M,Ck,dM,jq,sn,N,X⟩:=h.row P;have l:w.cell? (K L (k*4+2))=some (.bool c[k].aS):=by simp[World.cell?,M,N]
 have IT:=e7 w _ l;have mu:=ag ((h.aj c[k] (dB _)));have p8:=ag (h.al.2.1 c[k] (dB _));have xT:=ag M;have tf:=ag N;have Gu:=ag X;rw[Q]at l;go_enter func192,ntmps192;go_wp2_with (go_at_call 174;go_must (refine(Gf B d (aa L c.length W) c i j _ (by exact(h.ak (aV w _)).cell) (by exact(h.ak (aV w _)).al)).mono ?_;rintro e w1 ⟨rfl,b⟩;have f:=(aV w _).trans (b.mono (by simp));have va:=ak (a:=(V w 0)) (v:=A r) b (by simp);have Gl:=ak (a:=(V w 1)) (v:=A s) b (by simp);have Gm:=ak (a:=(V w 2)) (v:=A g) b (by simp);have Tv:=ak (a:=(V w 3)) (v:=.bool E) b (by simp);have Tw:=ak (a:=(V w 4)) (v:=A i) b (by simp);have Tx:=ak (a:=(V w 5)) (v:=A j) b (by simp);have Lk:=ak (a:=(V w 6)) (v:=.string m) b (by simp);have Ty:=ak (a:=(V w 7)) (v:=A u) b (by simp);have Tz:=ak (a:=(V w 8)) (v:=A x) b (by simp);have TA:=ak (a:=(V w 9)) (v:=A y) b (by simp);have TB:=ak (a:=(V w 10)) (v:=A z) b (by simp);have Gn:=ak (a:=(V w 11)) (v:=A n) b (by simp);have Gp:=ak (a:=(V w 12)) (v:=A C) b (by simp);have Gq:=ak (a:=(V w 13)) (v:=A D) b (by simp);have IJ:=ak (a:=(V w 14)) (v:=.slice R q.length S) b (by simp);replace h.cell:=ak f h.cell;replace l:=ak f l;have hz1:=f.size))
 cases o
 all_goals go_region
 all_goals(try go_wp2)
 all_goals go_end0
 all_goals exact⟨rfl,h.ak f.drew,nN.cL f.drew U⟩
theorem ahj (B t d:Nat) (v:Value) (b:List ep) (aI:t<100000) (Q:Value) (l:List PId) (m o f q r s u E F n x y:Int) (I:Bool) (g:ByteArray) (w:World) (h:gG B t w d v b) (R:fu w Q l)
  (dK:¬f=1) (k:Nat) (S:k<b.length) (wz:di (mO (q,r)) b=(k:Int)) (dx:¬f=2) (M:Bool) (hl:b[k].aS=M) (U:g.toList.isEmpty=M):
  O 192 #[Z d,.agg #[A m,A o,A f,.bool I,A q,A r,.string g,A s,A u,A E,A F,A n,A x,A y,Q]] w λe z=>e=ad (.tuple #[])/\(∃D i,gG B (t+1) z d v (b.set k ⟨b[k].id,b[k].aS,D,i⟩)/\i.map bX.p=mS (b[k].ss.map bX.p) b[k].aS g (s,u) l f ⟨(m,o),n,(x,y)⟩)/\nN B w z:=by
 obtain⟨X,Y,rfl,_,_,_⟩:=bz R;have gW:=h.lt;have hBw:B<=w.heap.size:=by have :=h.hB;omega
 obtain⟨j,cap,cO,rfl,IS,dO,Ck,dM,jq,sn,b3,lS⟩:=h.row S;have L:w.cell? (K j (k*4+2))=some (.bool b[k].aS):=by simp[World.cell?,dO,b3]
 have IT:=e7 w _ L;have mu:=(h.aj b[k] (dB _));rw[hl]at L;go_enter func192,ntmps192;go_wp2_with (go_at_call 174;go_must (refine(Gf B d (aa j b.length cap) b q r _ (by exact(h.ak (aV w _)).cell) (by exact(h.ak (aV w _)).al)).mono ?_;rintro e w1 ⟨rfl,c⟩;have N:=(aV w _).trans (c.mono (by simp));have va:=ak (a:=(V w 0)) (v:=A m) c (by simp);have Gl:=ak (a:=(V w 1)) (v:=A o) c (by simp);have Gm:=ak (a:=(V w 2)) (v:=A f) c (by simp);have Tv:=ak (a:=(V w 3)) (v:=.bool I) c (by simp);have Tw:=ak (a:=(V w 4)) (v:=A q) c (by simp);have Tx:=ak (a:=(V w 5)) (v:=A r) c (by simp);have Lk:=ak (a:=(V w 6)) (v:=.string g) c (by simp);have Ty:=ak (a:=(V w 7)) (v:=A s) c (by simp);have Tz:=ak (a:=(V w 8)) (v:=A u) c (by simp);have TA:=ak (a:=(V w 9)) (v:=A E) c (by simp);have TB:=ak (a:=(V w 10)) (v:=A F) c (by simp);have Gn:=ak (a:=(V w 11)) (v:=A n) c (by simp);have Gp:=ak (a:=(V w 12)) (v:=A x) c (by simp);have Gq:=ak (a:=(V w 13)) (v:=A y) c (by simp);have IJ:=ak (a:=(V w 14)) (v:=.slice X l.length Y) c (by simp);replace h.cell:=ak N h.cell;replace L:=ak N L))
 have e2:∀W,J w1 W->O 215 #[.pointer (some (K j (k*4))),.agg #[A m,A o,A f,.bool I,A q,A r,.string g,A s,A u,A E,A F,A n,A x,A y,.slice X l.length Y]] W λe z=>e=ad (.tuple #[])/\(∃D i,gG B (t+1) z d (aa j b.length cap) (b.set k ⟨b[k].id,b[k].aS,D,i⟩)/\i.map bX.p=mS (b[k].ss.map bX.p) b[k].aS g (s,u) l f ⟨(m,o),n,(x,y)⟩)/\nN B w z:=by
  intro W fk;have C:=bp N fk;have ZS:W.heap[j]?=some (.cells cO 272):=by rw[C.block j IT];exact dO
  refine(aha B t j (k*4) cO b[k].ix b[k].ss mu.1 mu.2 aI b[k].aS m o f q r s u E F n x y I g _ l W ZS lS b3 ((h.al.2.1 b[k] (dB _)).ak C) (by have :=C.size;omega) (R.ak C)).mono ?_;rintro e z ⟨U,i,P,nO,IU,jJ⟩;obtain⟨⟨D,vb⟩,ah⟩:=(h.ak C).upd S rfl ZS P IU jJ;exact⟨U,⟨D,i,vb,nO⟩,(nN.cL C hBw).trans ah⟩
 cases M
 all_goals go_region
 all_goals go_wp2_with (go_at_call 215;go_must (refine(e2 _ (io (ca _ _) _)).mono ?_;rintro e w2 ⟨rfl,P⟩))
 all_goals go_end0
 all_goals exact⟨rfl,P⟩
theorem ZT(e:a<r.length)(c:Value)(b:List bX)(f:bA->bA)(d:f r[a].p=⟨r[a].id,r[a].aS,b.map bX.p⟩):
  (r.set a ⟨r[a].id,r[a].aS,c,b⟩).map ep.p=(r.map ep.p).modify a f:=by
 rw[List.map_set,Ts _ _ _ (by simp_all),pn,d];rfl
theorem ahk {α:Type} (f:α->α) (l:List α) (k:Nat) (h:k<l.length) (a:f l[k]=l[k]):l.modify k f=l:=by rw[Ts f l k h,a,List.set_getElem_self]
theorem ahl{p:bT}{o:bA}(a:¬p.aM=2)(h:o.aS=p.key.toList.isEmpty):hJ p o=⟨o.id,o.aS,mS o.ss o.aS p.key p.hx p.old p.aM p.held⟩:=by unfold hJ;simp_all
theorem ahm{p:bT}{o:bA}(a:¬p.aM=2)(h:¬o.aS=p.key.toList.isEmpty):hJ p o=o:=by unfold hJ;simp_all
theorem ahn (B t d:Nat) (v:Value) (b:List ep) (x:t<100000) (s:Value) (p:bT) (w:World) (h:gG B t w d v b) (y:fu w s p.old):
  O 192 #[Z d,opV p s] w λe o=>e=ad (.tuple #[])/\∃u X,gG B (t+1) o d u X/\X.map ep.p=cC (b.map ep.p) p/\nN B w o:=by
 obtain⟨⟨z,C⟩,q,D,⟨c,g⟩,m,⟨E,F⟩,⟨I,L⟩,n,⟨M,N⟩,R⟩:=p;by_cases r:q=1
 .subst r;obtain⟨jO,co,rfl,_⟩:=bz y;refine(ahe B t d v b x _ z C c g E F I L n M N D m w h ⟨_,_,_,rfl⟩).mono λe o ⟨i,u,j,l⟩=>⟨i,u,_,j,?_,l⟩
  simp[cC,ep.p]
 have aL:=Ci (mO (c,g)) b;have gB:=Gj (mO (c,g)) b;by_cases Y:di (mO (c,g)) b<0
 .refine(ahf B t d v b x s R z C q c g E F I L n M N D m w h y r (by omega)).mono λe o ⟨i,j,l⟩=>⟨i,v,b,j.mono (by omega),?_,l⟩
  unfold cC;simp only[Pb,a7 r,bn Y]
 obtain⟨k,S⟩:=Ce (a:=di (mO (c,g)) b) (by omega);have P:k<b.length:=by omega
 have TC:k<(b.map ep.p).length:=by simp_all
 have ao:∀f,(f b[k].p=b[k].p->(b.map ep.p).modify k f=b.map ep.p):=λf aH=>ahk _ _ _ TC (by simp_all)
 have AK:∀p:bT,p.aM=q->p.eT=(c,g)->cC (b.map ep.p) p=(b.map ep.p).modify k (hJ p):=by intro p fH iI;unfold cC;rw[fH,iI,Pb,a7 r,a7 Y,S];rfl
 rw[AK _ rfl rfl];by_cases Q:q=2
 .cases U:b[k].aS
  .refine(ahg B t d v b x s R z C q c g E F I L n M N D m w h y r k P S Q U).mono λe o ⟨i,j,l⟩=>⟨i,v,b,j.mono (by omega),?_,l⟩
   rw[ao _ (by simp[hJ,Q,ep.p,U])]
  refine(ahh B t d v b x s R z C q c g E F I L n M N D m w h y r k P S Q U).mono λe o ⟨i,⟨u,j⟩,l⟩=>⟨i,v,_,j,?_,l⟩
  exact ZT P u _ _ (by simp[hJ,Q,ep.p,U,ag7])
 by_cases W:b[k].aS=m.toList.isEmpty
 .refine(ahj B t d v b x s R z C q c g E F I L n M N D m w h y r k P S Q b[k].aS rfl W.symm).mono λe o ⟨i,⟨u,l',j,ax⟩,l⟩=>⟨i,v,_,j,?_,l⟩
  refine ZT P u _ _ ?_;rw[ahl (by omega) (by exact W),ax];rfl
 have zl:m.toList.isEmpty= !b[k].aS:=by revert W;cases b[k].aS<;>cases m.toList.isEmpty<;>simp
 refine(ahi B t d v b x s R z C q c g E F I L n M N D m w h y r k P S Q b[k].aS rfl zl).mono λe o ⟨i,j,l⟩=>⟨i,v,b,j.mono (by omega),?_,l⟩
 rw[ao _ (ahm (by omega) (by exact W))]
def qM (a b:PId):Bool:=decide (a.1<b.1\/(a.1=b.1/\a.2<b.2))
theorem Pc(a:PId):qM a a=false:=by simp[qM]
theorem aho{b c:PId}(a:qM F b=true)(d:qM b c=true):qM F c=true:=by simp[qM]at *;omega
def Co (S:List bT):Prop:=S.Pairwise λa b=>qM a.id b.id=true
def rC (a:List PId) (b:Nat->Bool) (k:Nat) (r:Int):Prop:=
 (r= -1/\∀j,j<k->b j=true)\/
 ∃i,∃c:i<a.length,i<k/\r=(i:Int)/\b i=false/\∀j (d:j<a.length),j<k->b j=false->qM a[j] a[i]=false
theorem rC.taken(h:rC s v a D)(m:v a=true):rC s v (a+1) D:=by
 rcases h with⟨b,c⟩|⟨i,d,n,b,c,f⟩
 .refine .inl ⟨b,λj g=> ?_⟩;by_cases e:j=a
  .simp_all
  exact c j (by omega)
 refine .inr ⟨i,d,by omega,b,c,λj k g l=> ?_⟩;by_cases e:j=a
 .simp_all
 exact f j k (by omega) l
theorem rC.first{k:Nat}(b:k<s.length)(h:rC s v k (-1))(c:v k=false):rC s v (k+1) k:=by
 rcases h with⟨_,d⟩|⟨i,f,g,l,_⟩
 .refine .inr ⟨k,b,by omega,rfl,c,λj m n a=> ?_⟩;by_cases e:j=k
  .subst e;exact Pc _
  rw[d j (by omega)]at a;cases a
 omega
theorem rC.better(c:a<s.length)(o:b<s.length)(h:rC s v a b)(d:v a=false)(f:qM s[a] s[b]=true):rC s v (a+1) a:=by
 rcases h with⟨g,_⟩|⟨i,p,q,g,r,k⟩
 .omega
 have :b=i:=by omega
 subst this;refine .inr ⟨a,c,by omega,rfl,d,λj l t m=> ?_⟩;by_cases e:j=a
 .subst e;exact Pc _
 have :=k j l (by omega) m;cases n:qM s[j] s[a]
 .rfl
 rw[aho n f]at this;omega
theorem rC.OV(m:b<s.length)(c:a<s.length)(h:rC s v b a)(n:qM s[b] s[a]=false):rC s v (b+1) a:=by
 rcases h with⟨d,_⟩|⟨i,o,p,d,f,g⟩
 .omega
 have :a=i:=by omega
 subst this;refine .inr ⟨a,c,by omega,rfl,f,λj k q l=> ?_⟩;by_cases e:j=b
 .simp_all
 exact g j k (by omega) l
theorem rC.shape(h:rC s v a D):D= -1\/∃m:Nat,∃_:m<s.length,D=(m:Int):=by
 rcases h with⟨b,_⟩|⟨i,c,_,b,_⟩
 .omega
 exact .inr ⟨i,c,b⟩
theorem ahp(h:Co z):(z.map (·.id)).Nodup:=by rw[List.Nodup,ry];exact h.imp λ{a b} c e=>by rw[e,Pc]at c;cases c
theorem ZU(h:Co z)(c:a<z.length)(d:b<z.length)(e:a<b):qM z[a].id z[b].id=true:=
 tT.1 h a b c d e
theorem ZV(h:Co z)(d:a<z.length):z[a].id∈(z.take b).map (·.id)↔a<b:=by
 rw[dF];constructor
 .rintro⟨c,f,e⟩;obtain⟨i,g,rfl⟩:=mm.1 f;rw[gU]at g;rw[K1]at e;have j:i<z.length:=by omega
  by_cases k:i<a
  .have :=ZU h j d k;rw[e,Pc]at this;cases this
  omega
 intro l;exact⟨z[a],by rw[mm];exact⟨a,by rw[gU];omega,by simp⟩,rfl⟩
theorem ahq(d:Q.Perm z)(f:Co Q)(g:a<z.length)(h:∀i (b:i<z.length),v i=decide (z[i].id∈(Q.take a).map (·.id)))(n:rC (z.map (·.id)) v z.length D):∃i,∃b:i<z.length,D=(i:Int)/\z[i]=Q[a]'(by rw[d.length_eq];exact g):=by
 have k:a<Q.length:=by rw[d.length_eq];exact g
 obtain⟨j,c,o⟩:∃j,∃c:j<z.length,z[j]=Q[a]:=by have :Q[a]∈z:=d.mem_iff.1 (dB _);obtain⟨j,c,e⟩:=mm.1 this;exact⟨j,c,e⟩
 have p:v j=false:=by rw[h j c,o,K2,ZV f k];omega
 rcases n with⟨_,l⟩|⟨i,b,_,r,l,s⟩
 .simp_all
 rw[c2]at b;refine⟨i,b,r,?_⟩;have t:z[i]∈Q:=d.mem_iff.2 (dB _);obtain⟨q,m,eq⟩:=mm.1 t;rw[h i b,<-eq,K2,ZV f m]at l;by_cases u:q=a
 .simp_all
 have w:=ZU f k m (by omega);have :=s j (by simp_all) c p
 simp_all
theorem ahr(c:Q.Perm z)(h:Co Q)(d:b<z.length)(i:∀a (k:a<z.length),v a=decide (z[a].id∈(Q.take b).map (·.id)))(k:a<z.length)(e:z[a]=Q[b]'(by rw[c.length_eq];exact d)):
  ∀j (f:j<z.length),(if j=a then true else v j)=decide (z[j].id∈(Q.take (b+1)).map (·.id)):=by
 intro j f;have l:b<Q.length:=by rw[c.length_eq];exact d
 rw[lx l,ga,SG];by_cases g:j=a
 .simp_all
 rw[a7 g,i j f];have m:z[j].id≠Q[b].id:=by
  rw[<-e];intro p;have :=(List.nodup_iff_pairwise_ne.1 ((c.map _).nodup_iff.1 (ahp h)));rw[tT]at this;rcases YO g with n|o
  .exact this j a (by simp_all) (by simp_all) n (by simp_all)
  exact this a j (by simp_all) (by simp_all) o (by simp_all)
 simp[m]
