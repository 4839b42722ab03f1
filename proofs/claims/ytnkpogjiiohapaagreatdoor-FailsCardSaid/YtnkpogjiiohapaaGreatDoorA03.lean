/- Our own text. -/
import Derived.Deep.RegionLaw
import Derived.Test.YtnkpogjiiohapaaGreatDoorA01
set_option linter.unusedSimpArgs false
set_option linter.unusedVariables false
set_option maxRecDepth 1000000
set_option maxHeartbeats 1600000
namespace Go.Proofs.YtnkpogjiiohapaaGreatDoor
open Go.RowKit Tryz
variable {a b d e l m R:Nat}{c j k n u:World}{f:List bD}{h:Array Value}{i P:Value}{q:ByteArray}{r:List dE}{s:List cP}{v:List PId}{w:Nat->Bool}{z:TypeId}{B:Array Oper}{C:Exit->Act->World->Prop}{D:Int}{E:PId}{F:Act->World->Prop}{I:Bool}{L:List Value}{M:Oper}{N:Prop}
def sE (B:Nat) (w:World) (v:Value) (l:List cP):Prop:=w.ownsRow B 243 5 v l.length (l.flatMap pF)
theorem sE.alloc{B w v l}(h:sE B w v l)(o:Obj):sE B (w.alloc o) v l:=arj h o
theorem sE.below(h:sE a c i s)(d:Below a j c)(e:a<=c.heap.size)(f:c.grownBy k i.ownBlock):Below a j k:=
 d.grown f e fun b g=>(ap1 h b g).1
theorem sE.ae{w v l}{w':World}(h:sE a w v l)(b:J w w'):sE a w' v l:=c7 h b
theorem abQ{y:cP}:∀u∈pF y,u.oneCell'=true:=by
 intro u a;simp[pF]at a;rcases a with rfl|rfl|rfl|rfl|rfl<;>rfl
theorem Ol{y:cP}(d:c.cell? (H a)=some (A y.cQ.1))(e:c.cell? (K a 1)=some (A y.cQ.2))(f:c.cell? (K a 2)=some (A y.num))(g:c.cell? (K a 3)=some (A y.obj.1))(h:c.cell? (K a 4)=some (A y.obj.2)):
  ∀j u,(pF y)[j]?=some u->c.cell? (K a j)=some u:=by
 intro j u b
 match j with
 |0=>simp[pF]at b;rw[<-b];exact d
 |1=>simp[pF]at b;rw[<-b];exact e
 |2=>simp[pF]at b;rw[<-b];exact f
 |3=>simp[pF]at b;rw[<-b];exact g
 |4=>simp[pF]at b;rw[<-b];exact h
 |j+5=>simp[pF]at b
theorem Om{rest:List Oper}{a:Act}(i:M.guard=none)(s x:Operand)(k:M.op=.call {callee:=.builtin .append,args:= #[s,x],argTypes:= #[227,227]})(b:Nat)(v:Value)(l:List cP)(m:a.eval s=v)(n:sE b c v l)(g d:Nat)(y:cP)(o:a.eval x=.slice (some (H g)) 1 d)(p:∀j u,(pF y)[j]?=some u->c.cell? (K g j)=some u)(w:l.length<1000000000)(q:b<=c.heap.size)(h:∀f e,sE b e f (l++[y])->c.grownBy e v.ownBlock->wpList prog B C rest (a.put M.dst f) e):wpList prog B C (M::rest) a c:=
 Kw pF 5 40 227 243 (.agg #[A 0,A 0,A 0,A 0,A 0]) (by kernel_rfl) underlying227 rfl (by omega) (fun _=>rfl) i s x k b v l m n g d y o
  p abQ (by omega) (by unfold maxLen;omega) q (fun f e r t=>h f e (by unfold sE;simpa using r) t)
def unnamed (a:List PId) (b:List cP):List cP:=b.filter fun h=> !decide (h.cQ∈a)
theorem abR(h:a<s.length)(b:decide (s[a].cQ∈v)=false):unnamed v (s.take (a+1))=unnamed v (s.take a)++[s[a]]:=by
 unfold unnamed;rw[aqp h,arq,ar3];rw[b];rfl
theorem abS(h:a<s.length)(b:decide (s[a].cQ∈v)=true):unnamed v (s.take (a+1))=unnamed v (s.take a):=by
 unfold unnamed;rw[aqp h,arq,ar3];rw[b];simp
theorem abT(a:List PId)(b:List cP)(k:Nat):(unnamed a (b.take k)).length<=k:=
 ap0 (aqR _ _) (List.length_take_le _ _)
theorem abU{l:List bD}{k:Nat}(a:k<l.length)(b:Value)(c:List cP):
  (l.set k ⟨l[k].key,l[k].id,b,c⟩).flatMap iq=(l.flatMap iq).set (k*4+3) b:=by
 induction l generalizing k with
 |nil=>simp at a
 |cons s l ih=>
  cases k with
  |zero=>simp[iq,aqm]
  |succ k=>
   have :=ih (k:=k) (by simpa using a);simp only[arM,aqm,asq];rw[this];have e:(k+1)*4+3=(iq s).length+(k*4+3):=by simp[iq];omega
   rw[e,List.set_append_right _ _ (by omega)];congr 1;congr 1;omega
theorem T0(h:k2 d c (.slice (some (H a)) b e) f)(i:b=f.length){k:Nat}(j:k<f.length)(g:Value)(l:List cP):
  k2 d (c.setCell (K a (k*4+3)) g) (.slice (some (H a)) b e) (f.set k ⟨f[k].key,f[k].id,g,l⟩):=by
 subst i;have :=asr h (k*4+3) g;unfold k2;rw[abU j,arD];exact this.1
theorem KK{base:Nat}{size:Nat}(h:c.ownsRow base z size (.slice (some (H a)) b d) e L):∃i,c.heap[a]?=some (.cells i z (0,0)):=by
 rcases h.2 with⟨g,_⟩|⟨k,f,i,g,_,j,_⟩
 ·injection g with g;cases g
 injection g with g _ _;injection g with g;injection g with g;subst g;exact⟨i,j⟩
theorem KL(d:k1 c i s)(g:c.heap[a]?=some (.cells h z (0,0)))(j:z≠243)(u:Value):k1 (c.setCell (K a b) u) i s:=by
 refine⟨d.1,?_⟩;rcases d.2 with k|⟨f,l,m,n,o,e,rest⟩
 ·exact .inl k
 refine .inr ⟨f,l,m,n,o,?_,rest⟩;have :f≠a:=by
  intro p;subst p;rw[g]at e;injection e with e;injection e with _ e _;exact j e
 rw[aqr _ _ _ _ this];exact e
theorem nj.abV
  (v:j.heap[a]?=some (.cells h 272 (0,0))) (y:h[R+3]?=some (.slice (some (H b)) e l))
  (n:ib m j (.slice (some (H b)) e l) f) (z:e=f.length) (q:J j c) (B:d<f.length) (C:k1 c i s):
  nj m j (c.setCell (K b (d*4+3)) i) a R h (.slice (some (H b)) e l) (f.set d ⟨f[d].key,f[d].id,i,s⟩):=by
 have D:a<j.heap.size:=(ap8.1 v).1;have w:c.heap[a]?=some (.cells h 272 (0,0)):=by rw[q.block a D];exact v
 have r:=n.ae q;obtain⟨I,p⟩:=KK r.1;have E:a≠b:=by
  intro k;subst k;rw[w]at p;injection p with p;injection p with _ p _;exact absurd p (by decide)
 have x:∀g,g≠b->(c.setCell (K b (d*4+3)) i).heap[g]?=c.heap[g]?:=fun g t=>aqr _ _ _ _ t
 refine⟨⟨_,⟨T0 r.1 z B i s,?_⟩,?_,.inl rfl⟩,q.os,q.tape,q.output,by simpa[World.setCell]using q.size,fun g t L F=> ?_⟩
 ·intro o u;rcases List.mem_or_eq_of_mem_set u with u|rfl
  ·exact KL (r.2 o u) p (by decide) i
  exact KL C p (by decide) i
 ·rw[x a E,TL y];exact w
 rw[x g (fun k=>F (by rw[k];rfl)),q.block g t]
def jt (a:List PId) (b:List cP) (kind:Int) (y:cP):List cP:=unnamed a b++(if kind=3 then[y] else[])
theorem abW(B z L:Nat)(cm:Array Value)(v:Value)(l:List bD)(k:Nat)(hk:k<l.length)(b:List cP)(S:l[k].ad=b)(Hg:b.length<1000000)(C D kind dQ dP aj aw eT eG n E F:Int)(aQ:Bool)(key:ByteArray)(du:Value)(d:List PId)(w:World)(c8:w.heap[z]?=some (.cells cm 272 (0,0)))(fi:cm[L+3]?=some v)(h:ib B w v l)(hB:B<=w.heap.size)(hold:eE w du d)(sF:cM (hC key (aj,aw)) l=(k:Int)):
  O 215 #[.pointer (some (K z L)),.agg #[A C,A D,A kind,.bool aQ,A dQ,A dP,.string key,A aj,A aw,A eT,A eG,A n,A E,A F,du]] w fun e w'=>
   e=.returned (.tuple #[])/\∃M,nj B w w' z L cm v (l.set k ⟨l[k].key,l[k].id,M,jt d b kind ⟨(C,D),n,(E,F)⟩⟩):=by
 obtain⟨a,cap,rfl,jq,cZ,fK⟩:=bm h.1;unfold maxLen at cZ;obtain⟨g,rfl⟩:=fK k hk;obtain⟨ju,co,rfl,za,hom,_⟩:=bm hold;obtain⟨bf,a6,bc,I⟩:=ib.cells h rfl k hk;have qU:=h.2 l[k] (ap6 _);obtain⟨bV,bQ,aF,lv,rE,On⟩:=bm qU;unfold maxLen at rE;rw[aF,S]at I;rw[aF,S]at qU;rw[S]at lv On;have N:w.cell? (K z (L+3))=some (.slice (some (H g)) l.length cap):=by simp[World.cell?,c8,fi]
 clear bf a6 bc fK;have lP:=aa N;have oi:=aa I;have az:=aa h;clear h;have oM:=aa c8;clear c8;have CS:=aa fi;clear fi;have tO:=aa hold;clear hold;have E1:=aa qU;clear qU;have dT:=aa aF;clear aF;have Oo:=aa On;clear On;have wu:=aa S;clear S;have c9:z<w.heap.size:=aqd w _ N;have Hh:g<w.heap.size:=aqd w _ I;go_enter func215,ntmps215;go_wp2_with (go_at_call 172;go_must (refine(CP B z L (.slice (some (H g)) l.length cap) l key aj aw _ ?av ?ab).mono ?_;(case av=>exact ae ((apY w.heap.size w).alloc (apX _) _) lP.o);(case ab=>exact az.o.ae ((apY w.heap.size w).alloc (apX _) _));rintro e r ⟨rfl,q⟩;have f:J w r:=((apY w.heap.size w).alloc (apX _) _).trans (q.mono (by simp));have sG:=aa (ae (a:=(V w 0)) (v:=A C) q (by simp[go_sem]));have CT:=aa (ae (a:=(V w 1)) (v:=A D) q (by simp[go_sem]));have CU:=aa (ae (a:=(V w 2)) (v:=A kind) q (by simp[go_sem]));have CV:=aa (ae (a:=(V w 11)) (v:=A n) q (by simp[go_sem]));have CW:=aa (ae (a:=(V w 12)) (v:=A E) q (by simp[go_sem]));have CX:=aa (ae (a:=(V w 13)) (v:=A F) q (by simp[go_sem]));have E2:=aa (ae (a:=(V w 14)) (v:=.slice ju d.length co) q (by simp[go_sem]));clear q;replace N:=ae f lP.o;replace I:=ae f oi.o;have P:=aa (f);clear f))
 have hz0:=P.o.size;have u9:Hq (∀s M,J r s->k1 s M (jt d b kind ⟨(C,D),n,(E,F)⟩)->nj B w (s.setCell (K g (k*4+3)) M) z L cm (.slice (some (H g)) l.length cap) (l.set k ⟨l[k].key,l[k].id,M,jt d b kind ⟨(C,D),n,(E,F)⟩⟩)):=
  fun s M ab ax=>nj.abV oM.o CS.o az.o rfl (P.o.trans (ab.mono hz0)) hk ax
 have T1:Hq (∀s,J r s->s.frozen? (K g (k*4+3))=false):=fun s ab=>
  ((P.o.trans (ab.mono hz0)).frozen (p:=(K g (k*4+3))) Hh).trans (ase az.o.1 _)
 replace tO:=aa (tO.o.ae P.o);replace E1:=aa (E1.o.ae P.o);clear hz0;go_loopw [5,6] (fun u i wr=>∃j:Nat,j<=b.length/\i=A j/\sE r.heap.size wr u (unnamed d (b.take j))/\J r wr) (fun _ i _=>b.length-(intOf i).toNat)
 case atStart=>exact⟨0,apZ _,rfl,aqe _ _ _ _,apY _ _⟩
 case round=>
  obtain⟨j,au,rfl,t,c⟩:=hrel;have ke:=aa N;have E3:=aa I;replace N:=ae c ke.o;replace I:=ae c E3.o;have xL:=ae c E2.o;have qc:w.heap.size<wr.heap.size:=aqd wr _ xL;have hz1:=c.size;have hz0:=P.o.size;have va:=abT d b j;by_cases aE:j<b.length
  ·obtain⟨E4,xM⟩:=Oo.o j aE;subst xM;obtain⟨d0,d1,d2,d3,d4⟩:=k1.cells E1.o rfl j aE;replace d0:=ae c d0;replace d1:=ae c d1;replace d2:=ae c d2;replace d3:=ae c d3;replace d4:=ae c d4;have anP:E4<wr.heap.size:=aqd wr _ d0;have x:=aa t;clear t;have y:=aa c;clear c;cases ak:decide (b[j].cQ∈d)
   ·have U:=aa ak;clear ak;go_wp2_with (first
     |(go_at_call 237;refine(TD (.slice ju d.length co) d b[j].cQ.1 b[j].cQ.2 _ ?av).mono ?_;(case av=>exact(tO.o.ae y.o).ae ((apY wr.heap.size wr).alloc (apX _) _));rintro e w2 ⟨W,m⟩;rw[show decide ((b[j].cQ.1,b[j].cQ.2)∈d)=false from U.o]at W;subst W;have x0:=ae (a:=(V wr 0)) (v:=A b[j].cQ.1) m (by simp[go_sem]);have x1:=ae (a:=(V wr 1)) (v:=A b[j].cQ.2) m (by simp[go_sem]);have x2:=ae (a:=(V wr 2)) (v:=A b[j].num) m (by simp[go_sem]);have x3:=ae (a:=(V wr 3)) (v:=A b[j].obj.1) m (by simp[go_sem]);have x4:=ae (a:=(V wr 4)) (v:=A b[j].obj.2) m (by simp[go_sem]);have f:J wr w2:=((apY wr.heap.size wr).alloc (apX _) _).trans (m.mono (by simp));clear m;have hz2:=f.size;have Q:=aa f;clear f)
     |(at_builtin;refine Om rfl (.tmp 74) (.tmp 76) rfl r.heap.size _ (unnamed d (b.take j)) rfl ?h1 w2.heap.size 1 b[j] rfl ?h2 ?aL ?b1 ?_;(case h1=>exact(x.o.ae Q.o).alloc _);(case h2=>exact Ol (by simp[go_sem]) (by simp[go_sem]) (by simp[go_sem]) (by simp[go_sem]) (by simp[go_sem]));(case aL=>omega);(case b1=>simp;omega);intro v' w3 R X;have fh:=aa X;clear X;have eL:=aa R;clear R))
    go_roundw
    case rel=>exact⟨j+1,by omega,by go_num,by rw[abR aE U.o];exact eL.o,sE.below ((x.o.ae Q.o).alloc _) ((y.o.trans (Q.o.mono hz1)).alloc (by omega) _) (by simp;omega) fh.o⟩
    case measure=>simp[intOf];omega
   have U:=aa ak;clear ak;go_wp2_with (go_at_call 237;refine(TD (.slice ju d.length co) d b[j].cQ.1 b[j].cQ.2 _ ?av).mono ?_;(case av=>exact(tO.o.ae y.o).ae ((apY wr.heap.size wr).alloc (apX _) _));rintro e w2 ⟨W,m⟩;rw[show decide ((b[j].cQ.1,b[j].cQ.2)∈d)=true from U.o]at W;subst W;have f:J wr w2:=((apY wr.heap.size wr).alloc (apX _) _).trans (m.mono (by simp));clear m;have Q:=aa f;clear f)
   go_roundw
   case rel=>exact⟨j+1,by omega,by go_num,by rw[abS aE U.o];exact x.o.ae Q.o,y.o.trans (Q.o.mono hz1)⟩
   case measure=>simp[intOf];omega
  have e7:=ae c sG.o;have gm:=ae c CT.o;have k3:=ae c CU.o;have E5:=ae c CV.o;have E6:=ae c CW.o;have E7:=ae c CX.o;rw[aql (by omega)]at t va;have y:=aa c;clear c;by_cases hE:kind=3
  ·have x:=aa t;clear t;subst hE;go_wp2_with (at_builtin;go_must (refine Om rfl (.tmp 81) (.tmp 87) rfl r.heap.size _ (unnamed d b) rfl ?h1 wr.heap.size 1 ⟨(C,D),n,(E,F)⟩ rfl ?h2 ?aL ?b1 ?_;(case h1=>exact x.o.alloc _);(case h2=>exact Ol (by simp[go_sem]) (by simp[go_sem]) (by simp[go_sem]) (by simp[go_sem]) (by simp[go_sem]));(case aL=>omega);(case b1=>simp;omega);intro v' w3 R X;have Y:J r w3:=sE.below (x.o.alloc _) (y.o.alloc hz1 _) (by simp;omega) X;clear X;obtain⟨a3,Hi,iD,_,_,_⟩:=bm R;generalize(unnamed d b++[(⟨(C,D),n,(E,F)⟩:cP)]).length=oN at iD;subst iD;replace N:=ae Y ke.o;replace I:=ae Y E3.o;have kK:w3.frozen? (K g (k*4+3))=false:=T1.o w3 Y;have bB:=aa Y;clear Y;have eL:=aa R;clear R))
   go_end0
   exact⟨rfl,_,u9.o _ _ bB.o (by have :=eL.o;unfold jt;rw[if_pos rfl];exact gT this (apZ _))⟩
  have kK:wr.frozen? (K g (k*4+3))=false:=T1.o wr y.o;obtain⟨a3,Hi,iD,_,_,_⟩:=bm t;generalize(unnamed d b).length=oN at iD;subst iD;have x:=aa t;clear t;go_wp2;go_end0
  exact⟨rfl,_,u9.o _ _ y.o (by have :=x.o;unfold jt;rw[if_neg hE,aqB];exact gT this (apZ _))⟩
def iR (w:World) (v v':Value):Prop:=v'.ownBlock=v.ownBlock\/∀k,v'.ownBlock=some k->w.heap.size<=k
theorem Oq{P:Program}(w:World)(base:Nat)(t f e:TypeId)(i:TypeInfo)(z:Value)(size bytes:Nat)(r:P.underlying t=some (.slice e))(s:P.info? e=some i)(C:i.zero=some z)(I:i.size=size)(L:i.bytes=bytes)(S:z.cells.size=size)(U:0<size)(v:Value)(n:Nat)(x:List Value)(y:w.ownsRow base e size v n x)(a:Addr)(m c:Nat)(b:List Value)(h:b.length=m*size)(B:∀j u,b[j]?=some u->w.cell? (a.add j)=some u)(M:∀u∈b,u.oneCell'=true)(W:n+m<=maxLen)(D:(n+m)*bytes<=140737488355328)(X:base<=w.heap.size):
  ∃l o,(Builtin.append_ #[t,t] f #[v,.slice (some a) m c]).run P w=.ok l o/\o.ownsRow base e size l (n+m) (x++b)/\w.grownBy o v.ownBlock/\iR w v l:=by
 obtain⟨l,o,d,Y,ag,KM⟩:=run_append_own (P:=P) w base t f e i z size bytes r s C I L S U v n x y a m c b h B M W D X;refine⟨l,o,d,Y,ag,?_⟩;have abY:n+m<=9223372036854775807:=by assumption
 subst I;subst L;rcases y.2 with⟨rfl,rfl⟩|⟨g,E,N,rfl,KN,qd,KO,cZ,gB,T2⟩
 ·by_cases hm:m=0
  ·exact .inl (by simp_all)
  have p:=run_append_nil (P:=P) w t f e i z r s C a m c b h B (by omega) (by omega) (by have ab:=D;simp only[aqQ]at ab;omega);rw[p]at d;injection d with q Q;subst q;exact .inr fun k F=>by simp[Value.ownBlock]at F;omega
 by_cases R:n+m<=E
 ·have pH:n*i.size+b.length<=N.size:=by rw[h,gB,<-aqZ];exact aqV _ R
  have p:=run_append_room (P:=P) w t f e i r s g n E N qd a m c b h B M R pH;rw[p]at d;injection d with q Q;subst q;exact .inl rfl
 have p:=run_append_grow (P:=P) w t f e i z r s C (H g) n E x y.1 (y.cells (g:=g) rfl) a m c b h B (by omega) (by omega) (growslice_fits (by omega) D);rw[p]at d;injection d with q Q;subst q;exact .inr fun k F=>by simp[Value.ownBlock]at F;omega
theorem xO {α:Type} (f:α->List Value) (size bytes:Nat) (t e:TypeId) (z:Value) (m:(prog.info? e).map (fun i=>(i.zero,i.size,i.bytes))=some (some z,size,bytes))
  (n:prog.underlying t=some (.slice e)) (p:z.cells.size=size) (q:0<size) (r:∀x,(f x).length=size)
  {o:Oper} {a:Act} {w:World}
  (D:o.guard=none) (s x:Operand) (E:o.op=.call {callee:=.builtin .append,args:= #[s,x],argTypes:= #[t,t]}) (b:Nat) (v:Value) (l:List α) (I:a.eval s=v)
  (L:w.ownsRow b e size v l.length (l.flatMap f)) (g c:Nat) (y:α) (M:a.eval x=.slice (some (H g)) 1 c)
  (Q:∀j u,(f y)[j]?=some u->w.cell? (K g j)=some u) (R:∀u∈f y,u.oneCell'=true) (S:(l.length+1)*bytes<=140737488355328) (p9:l.length<maxLen) (U:b<=w.heap.size)
  (h:∀d k,k.ownsRow b e size d (l.length+1) ((l++[y]).flatMap f)->w.grownBy k v.ownBlock->iR w v d->F (a.put o.dst d) k):
  if Region.wanted o (yielded B a.tmps)=true then Oper.wp prog o a w F C else N:=by
 have W:Region.wanted o (yielded B a.tmps)=true:=by simp[Region.wanted,D]
 rw[if_pos W];obtain⟨i,X,Y,hsz,ez⟩:=info_parts m;obtain⟨d,k,aH,h2,al,aL⟩:=Oq (P:=prog) w b t o.type e i z size bytes n X Y hsz ez p q v l.length (l.flatMap f) L (H g) 1 c (f y) (by rw[r];simp)
  (fun j u hu=>by
   have :((H g):Addr).add j=(K g j):=by unfold Addr.add;split <;>simp_all
   rw[this];exact Q j u hu) R (by omega) S U
 unfold Oper.wp execOp;simp only[E,resolve,invoke,builtin,aqt,aq4,aqz,arQ,aqj,aqY,I,M,aH];exact h d k (by simpa using h2) al aL
theorem T3{w}(h:k1 w i s)(f:∀(g:Nat) (a:Array Value),w.heap[g]?=some (.cells a 243 (0,0))->c.heap[g]?=w.heap[g]?):k1 c i s:=by
 refine⟨h.1,?_⟩;rcases h.2 with j|⟨g,b,a,d,e,k,rest⟩
 ·simp_all
 exact .inr ⟨g,b,a,d,e,by simp_all,rest⟩
theorem bK{w:World}{g:Nat}{c:Array Value}{b:TypeId}{f d:Nat×Nat}(a:w.heap[g]?=some (.cells h z f))(e:w.heap[g]?=some (.cells c b d)):z=b:=by
 simp_all
theorem bq{w:World}{base:Nat}{size:Nat}{v:Value}(h:w.ownsRow base z size v a L){g:Nat}(d:v.ownBlock=some g):∃b,w.heap[g]?=some (.cells b z (0,0)):=by
 rcases h.2 with⟨rfl,_⟩|⟨e,c,b,rfl,_,f,_⟩
 ·contradiction
 simp[Value.ownBlock]at d;simp_all
theorem k2.form(h:k2 b c (.slice (some (H d)) a e) f):c.ownsRow b 269 4 (.slice (some (H d)) a e) a (f.flatMap iq):=by
 obtain⟨i,j,g,_⟩:=bm h;injection g with _ g _;unfold k2 at h
 simp_all
structure Made (B:Nat) (w w1 W w2 w3:World) (go cd:Nat) (cm:Array Value) (v:Value) (l:List bD) (g2 b8 bc:Nat) (key:ByteArray):Prop where
 c8:w.heap[go]?=some (.cells cm 272 (0,0))
 fi:cm[cd+3]?=some v
 h:ib B w v l
 aq:J w w1
 fj:J w1 W
 eD:W.grownBy w2 v.ownBlock
 fE:k2 B w2 (.slice (some (H g2)) b8 bc) (l++[jd key (0,0)])
 jJ:b8=l.length+1
 de:iR W v (.slice (some (H g2)) b8 bc)
 gn:w3=w2.setCell (K go (cd+3)) (.slice (some (H g2)) b8 bc)
theorem Made.bp{f v l g i}(m:Made b c j k n u a d f v l R g i q):some a≠v.ownBlock:=by
 intro e;obtain⟨p,o⟩:=bq m.h.1 e.symm;exact absurd (bK m.c8 o) (by decide)
theorem Made.xP{w}(g:Made a w j c k n b d h i f e l m q):J w c:=g.aq.trans (g.fj.mono g.aq.size)
theorem Made.lt{w W v l key}(f:Made b w c W j k a d h v l e m R key):a<w.heap.size:=(ap8.1 f.c8).1
theorem Made.go2{w}(g:Made b w j k c n a d h i f e l m q):c.heap[a]?=some (.cells h 272 (0,0)):=by
 rw[g.eD.block a (ap3 g.lt g.xP.size) g.bp,g.xP.block a g.lt];exact g.c8
theorem Made.ne{v}(g:Made d c j k n u a e h v f b l m q):a≠b:=by
 intro i;subst i;obtain⟨p,o⟩:=KK g.fE;exact absurd (bK g.go2 o) (by decide)
theorem Made.T4(g:Made m j k n u c a b h i f d e l q):c.heap[a]?=some (.cells (h.setIfInBounds (b+3) (.slice (some (H d)) e l)) 272 (0,0)):=by
 rw[g.gn];simp[World.setCell,ars,g.go2]
theorem Made.T5{w}(o:Made b w k n c j a d h i f e l m q)(g:Nat)(p:g≠a):j.heap[g]?=c.heap[g]?:=by
 rw[o.gn];exact aqr _ _ _ _ p
theorem Made.abZ(g:Made a k n u c j b d h i f e l m q):j.heap.size=c.heap.size:=by rw[g.gn];simp
theorem Made.old{w v key}(g:Made b w n c u j a d h v f e l m key)(k:Nat)(i:k<c.heap.size)(o:k≠a)(p:some k≠v.ownBlock):j.heap[k]?=c.heap[k]?:=by
 rw[g.T5 k o,g.eD.block k i p]
theorem Made.Ot(o:Made a j k n u c l m h i f b d e q):k2 a c (.slice (some (H b)) d e) (f++[jd q (0,0)]):=by
 refine⟨o.fE.1,?_⟩;rcases o.fE.2 with⟨p,_⟩|⟨g,r,s,p,t,v,rest⟩
 ·simp_all
 refine .inr ⟨g,r,s,p,t,?_,rest⟩;injection p with p _ _;injection p with p;injection p with p;subst p;rw[o.T5 _ o.ne.symm];exact v
theorem Made.ab0{w t}(o:Made a w j k n c b d t P f e l m q)(u:k1 w i s):k1 c i s:=by
 refine T3 (u.ae o.xP) fun g v r=>o.old g (ap8.1 r).1 ?_ ?_
 ·intro p;subst p;have :=o.xP.block g o.lt;rw[this]at r;exact absurd (bK o.c8 r) (by decide)
 intro p;obtain⟨x,y⟩:=bq (c7 o.h.1 o.xP) p.symm
 simp_all
theorem Made.E8{w r s t}(g:Made e w c j n k l m r P f R s t q)(p:c.cell? (K b d)=some i)(u:w.heap.size<=b):k.cell? (K b d)=some i:=by
 have :k.heap[b]?=j.heap[b]?:=g.old b (ap3 (aqd c _ p) g.fj.size) (by have :=g.lt;omega) (fun o=>by have :=(ap1 g.h.1 b o.symm).2;omega);rw[aq0 (w:=j) (a:=(K b d)) this];exact(ae g.fj p)
theorem Made.ab1(g:Made m j k n u c a b h i f d e l q):c.cell? (K a (b+3))=some (.slice (some (H d)) e l):=by
 simp[World.cell?,g.T4,(ap8.1 g.fi).1]
theorem Made.ab2{g}(o:Made d j k n u c e l h i g a b m q):c.cell? (K a (g.length*4+3))=some (.slice none 0 0):=by
 have p:=o.Ot;unfold k2 at p;rw[show(g++[jd q (0,0)]).length=b by rw[o.jJ];simp]at p;have :=ir (f:=iq) (fun _=>rfl) p (by rw[o.jJ];simp) g.length (by simp) 3 (by omega);rw[this];simp[iq,jd]
theorem Made.upd{W F v}(g:Made d j u W F n b e h v f a l m q)(w:J n c)(I:k1 c i s):
  nj d j (c.setCell (K a (f.length*4+3)) i) b e h v (f++[⟨q,(0,0),i,s⟩]):=by
 have z:=c7 g.Ot w;obtain⟨R,B⟩:=KK z;have C:=T0 z (by rw[g.jJ];simp) (k:=f.length) (by simp) i s;have r:(f++[jd q (0,0)]).set f.length ⟨(f++[jd q (0,0)])[f.length].key,(f++[jd q (0,0)])[f.length].id,i,s⟩=f++[⟨q,(0,0),i,s⟩]:=by
  simp[jd]
 rw[r]at C;have D:∀o,o≠a->(c.setCell (K a (f.length*4+3)) i).heap[o]?=c.heap[o]?:=fun o y=>aqr _ _ _ _ y
 have L:=g.abZ;have S:=g.eD.size;have M:=g.xP.size;refine⟨⟨_,⟨C,?_⟩,?_,?_⟩,?_,?_,?_,?_,fun o y N E=> ?_⟩
 ·intro t x;rcases ap7.1 x with x|x
  ·exact KL ((g.ab0 (g.h.2 t x)).ae w) B (by decide) i
  simp at x;subst x;exact KL I B (by decide) i
 ·rw[D b g.ne,w.block b (by rw[L];have :=g.lt;omega)];exact g.T4
 ·rcases g.de with p|p
  ·simp_all
  exact .inr fun k P=>by have :=p k P;omega
 ·show c.os=j.os;rw[w.os,g.gn];exact g.eD.os.trans g.xP.os
 ·show c.tape=j.tape;rw[w.tape,g.gn];exact g.eD.tape.trans g.xP.tape
 ·show c.output=j.output;rw[w.output,g.gn];exact g.eD.output.trans g.xP.output
 ·have :=w.size;simp[World.setCell];omega
 have Q:o≠a:=by
  rcases g.de with p|p
  ·intro r;subst r;exact E (by rw[<-p];rfl)
  intro r;subst r;have :=p o rfl;omega
 rw[D o Q,w.block o (by omega),g.old o (ap3 y M) N E,g.xP.block o y]
theorem ab3{key:ByteArray}:∀j u,(iq (jd key (0,0)))[j]?=some u->(c.alloc (.cells #[.string key,A 0,A 0,.slice none 0 0] 269)).cell? (V c j)=some u:=by
 intro j u a;rw[asm _ _ _ _ rfl]
 match j with
 |0=>assumption
 |1=>assumption
 |2=>assumption
 |3=>assumption
 |j+4=>assumption
theorem ab4{key:ByteArray}:∀u∈iq (jd key E),u.oneCell'=true:=by
 intro u a;simp[jd,iq]at a;rcases a with rfl|rfl|rfl|rfl<;>rfl
theorem ab5{a:Act}(i:M.guard=none)(s x:Operand)(k:M.op=.call {callee:=.builtin .append,args:= #[s,x],argTypes:= #[270,270]})(b:Nat)(v:Value)(l:List bD)(m:a.eval s=v)(n:k2 b c v l)(g d:Nat)(y:bD)(o:a.eval x=.slice (some (H g)) 1 d)(p:∀j u,(iq y)[j]?=some u->c.cell? (K g j)=some u)(q:∀u∈iq y,u.oneCell'=true)(z:l.length<10000000)(r:b<=c.heap.size)(h:∀e f,k2 b f e (l++[y])->c.grownBy f v.ownBlock->iR c v e->F (a.put M.dst e) f):
  if Region.wanted M (yielded B a.tmps)=true then Oper.wp prog M a c F C else N:=
 xO iq 4 56 270 269 (.agg #[.string ⟨#[]⟩,A 0,A 0,.slice none 0 0]) (by kernel_rfl) underlying270 rfl (by omega) (fun _=>rfl)
  i s x k b v l m n g d y o p q (by omega) (by unfold maxLen;omega) r (fun e f D t w=>h e f (by unfold k2;simp_all) t w)
theorem ab6(B b c:Nat)(E:Array Value)(v:Value)(l:List bD)(ku:l.length<1000000)(s t kind dQ dP d P eT eG n u j:Int)(aQ:Bool)(key:ByteArray)(du:Value)(Q:List PId)(w:World)(x:w.heap[b]?=some (.cells E 272 (0,0)))(R:E[c+3]?=some v)(bz:E[c+2]?=some (.bool false))(h:ib B w v l)(hB:B<=w.heap.size)(S:eE w du Q)(sF:cM (hC key (d,P)) l= -1):
  O 215 #[.pointer (some (K b c)),.agg #[A s,A t,A kind,.bool aQ,A dQ,A dP,.string key,A d,A P,A eT,A eG,A n,A u,A j,du]] w fun e w'=>
   e=.returned (.tuple #[])/\∃ig,nj B w w' b c E v (l++[⟨key,(0,0),ig,jt Q [] kind ⟨(s,t),n,(u,j)⟩⟩]):=by
 obtain⟨a,y,rfl,jq,cZ,fK⟩:=bm h.1;unfold maxLen at cZ;obtain⟨ju,co,rfl,za,hom,_⟩:=bm S;have m:w.cell? (K b (c+3))=some (.slice a l.length y):=by simp[World.cell?,x,R]
 have U:w.cell? (K b (c+2))=some (.bool false):=by simp[World.cell?,x,bz]
 have F:w.frozen? (K b (c+3))=false:=by simp[World.frozen?,x]
 clear fK;have lP:=aa m;have rH:=aa U;have HFZ:=aa F;have z:=aa h;clear h;have oM:=aa x;clear x;have CS:=aa R;clear R;have tO:=aa S;clear S;have c9:b<w.heap.size:=aqd w _ m;have bp:some b≠(Value.slice a l.length y).ownBlock:=by
  intro e;cases a with
  |none=>simp[Value.ownBlock]at e
  |some Hb=>
   obtain⟨I,rfl⟩:∃I,Hb=(H I):=by
    rcases z.o.1.2 with⟨d,_⟩|⟨I,b7,cur,d,_⟩
    ·injection d with d;cases d
    injection d with d;injection d with d;exact⟨I,d⟩
   simp[Value.ownBlock]at e;subst e;obtain⟨cur,q⟩:=KK z.o.1;rw[oM.o]at q;injection q with q;injection q with _ q _;exact absurd q (by decide)
 have kf:=aa bp;clear bp;go_enter func215,ntmps215;go_wp2_with (go_at_call 172;go_must (refine(CP B b c (.slice a l.length y) l key d P _ ?av ?ab).mono ?_;(case av=>exact ae ((apY w.heap.size w).alloc (apX _) _) lP.o);(case ab=>exact z.o.ae ((apY w.heap.size w).alloc (apX _) _));rintro e i ⟨rfl,g⟩;have r:J w i:=((apY w.heap.size w).alloc (apX _) _).trans (g.mono (by simp));have sG:=aa (ae (a:=(V w 0)) (v:=A s) g (by simp[go_sem]));have CT:=aa (ae (a:=(V w 1)) (v:=A t) g (by simp[go_sem]));have CU:=aa (ae (a:=(V w 2)) (v:=A kind) g (by simp[go_sem]));have CV:=aa (ae (a:=(V w 11)) (v:=A n) g (by simp[go_sem]));have CW:=aa (ae (a:=(V w 12)) (v:=A u) g (by simp[go_sem]));have CX:=aa (ae (a:=(V w 13)) (v:=A j) g (by simp[go_sem]));have E2:=aa (ae (a:=(V w 14)) (v:=.slice ju Q.length co) g (by simp[go_sem]));have T6:=g;clear g;replace m:=ae r lP.o;replace U:=ae r rH.o;replace F:=(r.frozen (p:=(K b (c+3))) c9).trans HFZ.o;have Hj:=aa (ae (a:=(V w 6)) (v:=.string key) T6 (by simp[go_sem]));have hz1:=r.size;have ay:=aa (r);clear r))
 have CZ:=Hj.o;have hT:w.heap.size<i.heap.size:=aqd i _ CZ;clear T6;have ab7:b<i.heap.size:=aqd i _ m;go_region_law (refine ab5 rfl (.tmp 29) (.tmp 33) rfl B (.slice a l.length y) l (by simp[Act.eval,Act.put]) ?h1 i.heap.size 1 (jd key (0,0)) (by simp[Act.eval,Act.put]) ?h2 ?al ?aL ?b1 ?_;(case h1=>exact((z.o.ae ay.o).1).alloc _);(case h2=>exact ab3);(case al=>exact ab4);(case aL=>omega);(case b1=>simp;omega);intro j W X L jJ;obtain⟨a2,bc,iS,_,_,Y⟩:=bm X;rw[ap4]at iS;obtain⟨C,rfl⟩:=Y 0 (by simp);subst iS;have N:J i (i.alloc (.cells #[.string key,A 0,A 0,.slice none 0 0] 269)).drew:=((apY _ i).alloc (apX _) _).drew;have gC:W.cell? (K b (c+3))=some (.slice a l.length y):=L.cell (ae N m) kf.o;have Y:W.frozen? (K b (c+3))=false:=(ass (a:=(K b (c+3))) (L.block b (by simp;omega) kf.o)).trans ((N.frozen (p:=(K b (c+3))) (by show b<_;omega)).trans F);have dN:=aa L;clear L;have tP:=aa jJ;clear jJ;have jZ:=aa X;clear X;have dv:=aa N;clear N)
 all_goals
  obtain⟨f,gn⟩:∃f,f=W.setCell (K b (c+3)) (.slice (some (H C)) (l.length+1) bc):=⟨_,rfl⟩;rw[<-gn];have M:=Made.mk (key:=key) oM.o CS.o z.o ay.o dv.o dN.o jZ.o rfl tP.o gn;clear gn gC Y;have oj:=M.ab1;have bZ:=M.ab2;have k3:=M.E8 CU.o (apX _);have e7:=M.E8 sG.o (apX _);have gm:=M.E8 CT.o (apX _);have E5:=M.E8 CV.o (apX _);have E6:=M.E8 CW.o (apX _);have E7:=M.E8 CX.o (apX _);have anR:w.heap.size<f.heap.size:=aqd f _ k3;have E9:b<f.heap.size:=aqd f _ oj;have ab8:C<f.heap.size:=aqd f _ bZ;have Hk:f.frozen? (K C (l.length*4+3))=false:=ase M.Ot.form _;have bJ:=aa M;clear M;clear m U F CZ;go_wp2;refine wp_loop_rounds 1 ?_;rw[rounds_succ];by_cases hE:kind=3
  ·subst hE;go_wp2_with (at_builtin;go_must (refine Om rfl (.tmp 81) (.tmp 87) rfl f.heap.size (.slice none 0 0) [] rfl ?h1 f.heap.size 1 ⟨(s,t),n,(u,j)⟩ rfl ?h2 ?aL ?b1 ?_;(case h1=>exact aqe _ _ _ _);(case h2=>exact Ol (by simp[go_sem]) (by simp[go_sem]) (by simp[go_sem]) (by simp[go_sem]) (by simp[go_sem]));(case aL=>simp);(case b1=>simp);intro v' w4 wy dw;have D:J f w4:=((apY _ f).alloc (apX _) _).grown dw (by simp) (fun k hk=>by cases hk);clear dw;obtain⟨a3,Hi,iD,_,_,_⟩:=bm wy;generalize([]++[(⟨(s,t),n,(u,j)⟩:cP)]).length=oN at iD;subst iD;replace oj:=ae D oj;replace bZ:=ae D bZ;have vb:w4.frozen? (K C (l.length*4+3))=false:=(D.frozen (p:=(K C (l.length*4+3))) ab8).trans Hk;have fx:=aa D;clear D;have eL:=aa wy;clear wy))
   go_end0
   exact⟨rfl,_,bJ.o.upd fx.o (by have :=eL.o;unfold jt;rw[if_pos rfl];exact gT this (apZ _))⟩
  go_wp2;go_end0
  exact⟨rfl,_,bJ.o.upd (apY _ _) (by unfold jt;rw[if_neg hE];exact Oe _)⟩
structure b9 where
 key:ByteArray
 id:PId
 ad:List cP
structure bg where
 id:PId
 list:Bool
 ss:List b9
def bD.p (s:bD):b9:=⟨s.key,s.id,s.ad⟩
def dE.p (o:dE):bg:=⟨o.id,o.list,o.ss.map bD.p⟩
structure fq (B t:Nat) (w:World) (d:Nat) (v:Value) (os:List dE):Prop where
 ai:w.heap[d]?=some (.cells #[v] 277 (0,0))
 hB:B<=d
 af:xG B w v os
 hn:os.length<=t+1
 ad:∀o∈os,o.ss.length<=t/\∀s∈o.ss,s.ad.length<=t
theorem fq.cell{w v}(h:fq b d w a v r):w.cell? (H a)=some v:=by simp[World.cell?,h.ai]
theorem fq.C0(h:fq b d c a i r):c.frozen? (H a)=false:=by simp[World.frozen?,h.ai]
theorem fq.lt{t w v}(h:fq b t w a v r):a<w.heap.size:=(ap8.1 h.ai).1
theorem fq.ae{B t w d v a}{w':World}(h:fq B t w d v a)(b:J w w'):fq B t w' d v a:=
 ⟨by rw[b.block d h.lt];exact h.ai,h.hB,h.af.ae b,h.hn,h.ad⟩
theorem fq.mono{w v}(h:fq a b w e v r)(g:b<=d):fq a d w e v r:=
 ⟨h.ai,h.hB,h.af,by have :=h.hn;omega,fun o c=>⟨by have :=(h.ad o c).1;omega,fun s f=>by have :=(h.ad o c).2 s f;omega⟩⟩
theorem ab9{l:List dE}{k:Nat}(b:k<l.length)(a:Value)(c:List bD):
  (l.set k ⟨l[k].id,l[k].list,a,c⟩).flatMap k0=(l.flatMap k0).set (k*4+3) a:=by
 induction l generalizing k with
 |nil=>simp at b
 |cons s l ih=>
  cases k with
  |zero=>simp[k0,aqm]
  |succ k=>
   have :=ih (k:=k) (by simp_all);simp only[arM,aqm,asq];rw[this];have e:(k+1)*4+3=(k0 s).length+(k*4+3):=by simp[k0];omega
   rw[e,List.set_append_right _ _ (by omega)];congr 1;congr 1;omega
theorem fq.row{w v}(h:fq a b w d v r){k:Nat}(j:k<r.length):
  ∃f c g,v=.slice (some (H f)) r.length c/\a<=f/\w.heap[f]?=some (.cells g 272 (0,0))/\r.length<=c/\c<=maxLen/\g.size=c*4/\g.toList.take (r.length*4)=r.flatMap k0/\
   g[k*4+2]?=some (.bool r[k].list)/\g[k*4+3]?=some r[k].hr:=by
 rcases h.af.1.2 with⟨_,e⟩|⟨f,c,l,m,n,o,p,q,s,i⟩
 ·omega
 refine⟨f,c,l,m,n,o,p,q,s,i,?_,?_⟩
 ·have :=N6 k0 4 (fun _=>rfl) r k 2 j (by omega);rw[<-i,art,if_pos (by omega)]at this;simpa[k0]using this
 have :=N6 k0 4 (fun _=>rfl) r k 3 j (by omega);rw[<-i,art,if_pos (by omega)]at this;simpa[k0]using this
theorem KP{w}(h:ib a w i f)(d:∀g,i.ownBlock=some g->c.heap[g]?=w.heap[g]?)(e:∀(g:Nat) (b:Array Value),w.heap[g]?=some (.cells b 243 (0,0))->c.heap[g]?=w.heap[g]?):ib a c i f:=by
 refine⟨⟨h.1.1,?_⟩,fun s j=>T3 (h.2 s j) e⟩;rcases h.1.2 with n|⟨g,k,b,rfl,l,m,rest⟩
 ·simp_all
 exact .inr ⟨g,k,b,rfl,l,by rw[d g rfl];exact m,rest⟩
theorem aca(u:a<r.length)(l:∀(c j:Nat) (h:c<r.length) (k:j<r.length),c≠j->r[c].hr.ownBlock=none\/r[c].hr.ownBlock≠r[j].hr.ownBlock)(m:∀o∈r,∀g,o.hr.ownBlock=some g->g<b)(d:i.ownBlock=r[a].hr.ownBlock\/∀g,i.ownBlock=some g->b<=g):
  ∀(c j:Nat) (h:c<(r.set a ⟨r[a].id,r[a].list,i,f⟩).length) (k:j<(r.set a ⟨r[a].id,r[a].list,i,f⟩).length),c≠j->
   (r.set a ⟨r[a].id,r[a].list,i,f⟩)[c].hr.ownBlock=none\/(r.set a ⟨r[a].id,r[a].list,i,f⟩)[c].hr.ownBlock≠(r.set a ⟨r[a].id,r[a].list,i,f⟩)[j].hr.ownBlock:=by
 intro c j h k n;rw[arD]at h k;by_cases p:a=c
 ·subst p;rw[List.getElem_set_self,asf (by omega)];rcases d with d|d
  ·simp_all
  cases q:i.ownBlock with
  |none=>exact .inl rfl
  |some g=>
   right
   intro e;have :=m r[j] (ap6 _) g e.symm;have :=d g q;omega
 by_cases s:a=j
 ·subst s;rw[List.getElem_set_self,asf (by omega)];rcases d with d|d
  ·rw[d];exact l c a h k n
  cases t:r[c].hr.ownBlock with
  |none=>exact .inl rfl
  |some g=>
   right
   intro e;have :=m r[c] (ap6 _) g t;have :=d g (show i.ownBlock=some g from e.symm);omega
 rw[asf (by omega),asf (by omega)];exact l c j h k n
structure mi (B:Nat) (w w':World):Prop where
 below:Below B w w'
 types:∀(g:Nat) (c:Array Value) (e:TypeId) (f:Nat×Nat),w.heap[g]?=some (.cells c e f)->e≠277->e≠272->e≠269->w'.heap[g]?=w.heap[g]?
theorem mi.cJ{w w':World}(h:J w w')(b:a<=w.heap.size):mi a w w':=
 ⟨h.mono b,fun g _ _ _ c _ _ _=>h.block g (ap8.1 c).1⟩
theorem mi.trans{B a b c}(h:mi B a b)(k:mi B b c):mi B a c:=
 ⟨h.below.trans k.below,fun g cs e f l d i j=>by
  have m:=h.types g cs e f l d i j;rw[k.types g cs e f (by simp_all) d i j,m]⟩
theorem mi.row{w w'}(h:mi b w w'){base:Nat}{size:Nat}{v:Value}(c:w.ownsRow base z size v a L)(e:z≠277)(f:z≠272)(i:z≠269):w'.ownsRow base z size v a L:=by
 refine⟨c.1,?_⟩;rcases c.2 with m|⟨g,j,k,rfl,l,d,rest⟩
 ·simp_all
 exact .inr ⟨g,j,k,rfl,l,by rw[h.types g _ _ _ d e f i];exact d,rest⟩
theorem fq.upd{v y}(l:fq b e j d v r){k:Nat}(D:k<r.length){cap:Nat}(U:v=.slice (some (H a)) r.length cap)(x:j.heap[a]?=some (.cells h 272 (0,0)))(u:nj b j n a (k*4) h r[k].hr y)(W:y.length<=e+1)(X:∀s∈y,s.ad.length<=e+1):
  (∃E,fq b (e+1) n d v (r.set k ⟨r[k].id,r[k].list,E,y⟩))/\mi b j n:=by
 subst U;obtain⟨E,Y,acb,de⟩:=u.ex;have z:ib b j r[k].hr r[k].ss:=l.af.2.1 _ (ap6 _);have anS:=(ap1 l.af.1 a rfl).1;have acd:=l.lt;have ace:d≠a:=by intro m;subst m;exact absurd (bK l.ai x) (by decide)
 have acf:some d≠r[k].hr.ownBlock:=by
  intro m;obtain⟨c,B⟩:=bq z.1 m.symm;exact absurd (bK l.ai B) (by decide)
 have P:=fun o w g q=>(ap1 (l.af.2.1 o w).1 g q).2
 have Ov:∀(g:Nat) (C:Array Value),j.heap[g]?=some (.cells C 243 (0,0))->n.heap[g]?=j.heap[g]?:=by
  intro g C q;refine u.other g (ap8.1 q).1 ?_ ?_
  ·intro m;simp_all
  intro m;obtain⟨c,B⟩:=bq z.1 m.symm;simp_all
 refine⟨⟨E,?_,l.hB,⟨?_,?_,aca D l.af.2.2 P de⟩,?_,?_⟩,?_⟩
 ·rw[u.other d acd ace acf];exact l.ai
 ·rcases l.af.1.2 with⟨t,_⟩|⟨g,c,C,t,ab,q,Q,F,I,aL⟩
  ·injection t with t;cases t
  injection t with t _ aw;injection t with t;injection t with t;subst t;subst aw;have fY:C=h:=by rw[x]at q;injection q with q;injection q with q;exact q.symm
  subst fY;refine⟨?_,.inr ⟨a,cap,_,by rw[arD],ab,acb,?_,F,?_,?_⟩⟩
  ·rw[qS k0 4 (fun _=>rfl)]
  ·rw[arD];exact Q
  ·simpa using I
  rw[ab9 D,arD,Array.toList_setIfInBounds,<-aL,List.take_set]
 ·intro o w;obtain⟨p,R,rfl⟩:=aqv.1 w;rw[arD]at R;by_cases L:k=p
  ·subst L;rw[List.getElem_set_self];exact Y
  rw[asf L];have S:=l.af.2.1 r[p] (ap6 _);refine KP S (fun g q=> ?_) Ov;refine u.other g (P _ (ap6 _) g q) ?_ ?_
  ·intro m;subst m;obtain⟨c,B⟩:=bq S.1 q;exact absurd (bK x B) (by decide)
  intro m;rcases l.af.2.2 p k R D (aqa L) with M|M
  ·rw[M]at q;cases q
  exact M (by rw[q,m])
 ·rw[arD];have :=l.hn;omega
 ·intro o w;rcases List.mem_or_eq_of_mem_set w with w|rfl
  ·exact⟨by have :=(l.ad o w).1;omega,fun s ad=>by have :=(l.ad o w).2 s ad;omega⟩
  exact⟨W,X⟩
 refine⟨⟨u.os,u.tape,u.output,u.size,fun i hi=>u.other i (by have :=l.hB;omega) (by omega) (fun m=>by have :=(ap1 z.1 i m.symm).1;omega)⟩,fun g c m f q Q F I=>u.other g (ap8.1 q).1 (fun N=> ?_) (fun N=> ?_)⟩
 ·subst N;exact F (bK q x)
 obtain⟨b7,cg⟩:=bq z.1 N.symm;exact I (bK q cg)
theorem Ua {α β:Type} (f:α->β) (p:β->Bool) (l:List α):cM p (l.map f)=cM (fun x=>p (f x)) l:=by
 unfold cM;rw[List.findIdx?_map];rfl
def fk (key:ByteArray) (x:PId) (s:b9):Bool:=(s.key.toList==key.toList)&&eF s.id.1 s.id.2 x.1 x.2
def mH (a:ByteArray) (x:PId):b9:=⟨a,x,[]⟩
theorem KR(a:ByteArray)(x:PId)(l:List bD):cM (fk a x) (l.map bD.p)=cM (hC a x) l:=by
 rw[Ua];rfl
def nM (l:List b9) (n:Nat) (s:b9):List b9:=l.take n++s::l.drop n
def qe (l:List b9) (b x:PId):List b9:=
 if eF b.1 b.2 0 0 then nM l 0 (mH ⟨#[]⟩ x)
 else if cM (fk ⟨#[]⟩ b) l<0 then l
 else nM l ((cM (fk ⟨#[]⟩ b) l).toNat+1) (mH ⟨#[]⟩ x)
theorem acg(l:List bD)(n:Nat)(a:ByteArray)(x:PId):(rG l n (jd a x)).map bD.p=nM (l.map bD.p) n (mH a x):=by
 simp[rG,nM,jd,mH,bD.p,aru,List.map_drop]
theorem ach(l:List bD)(b x:PId):(wo l b x).map bD.p=qe (l.map bD.p) b x:=by
 unfold wo qe;rw[KR];split
 ·rfl
 split
 ·rfl
 exact acg _ _ _ _
theorem Ub{s y:bD}(h:y∈rG f a s):y∈f\/y=s:=by
 unfold rG at h;rw[ap7,aqb]at h;rcases h with h|h|h
 ·exact .inl (aqE h)
 ·simp_all
 exact .inl (aq8 h)
theorem Uc(l:List bD)(n:Nat)(s:bD):(rG l n s).length=l.length+1:=by
 unfold rG;rw[ap4,aqk,aqg,aqA];omega
theorem Ud(l:List bD)(b x:PId):(wo l b x).length<=l.length+1/\∀y∈wo l b x,y∈l\/y.ad=[]:=by
 unfold wo;split
 ·exact⟨by rw[Uc];omega,fun y a=>(Ub a).imp id fun e=>by rw[e];rfl⟩
 split
 ·simp_all
 exact⟨by rw[Uc];omega,fun y a=>(Ub a).imp id fun e=>by rw[e];rfl⟩
theorem aci(B g i:Nat)(j:Array Value)(v:Value)(l:List bD)(b c d f:Int)(w:World)(n:w.heap[g]?=some (.cells j 272 (0,0)))(o:j[i+3]?=some v)(h:ib B w v l)(p:l.length<1000000)(q:B<=w.heap.size):
  O 214 #[.pointer (some (K g i)),.agg #[A b,A c],.agg #[A d,A f]] w fun e s=>
   e=.returned (.tuple #[])/\nj B w s g i j v (wo l (b,c) (d,f)):=by
 cases m:eF b c 0 0
 ·have x:=yY (hC ⟨#[]⟩ (b,c)) l;have y:=CR (hC ⟨#[]⟩ (b,c)) l;by_cases z:cM (hC ⟨#[]⟩ (b,c)) l<0
  ·have e:wo l (b,c) (d,f)=l:=by unfold wo;simp_all
   rw[e];exact abK B g i j v l b c d f w n o h p m (by omega)
  obtain⟨k,r⟩:=arl (a:=cM (hC ⟨#[]⟩ (b,c)) l) (by omega);have e:wo l (b,c) (d,f)=rG l (k+1) (jd ⟨#[]⟩ (d,f)):=by unfold wo;simp[m,r];omega
  rw[e];exact abJ B g i j v l b c d f k w n o h p q m r
 rw[CL]at m;injection m with t u;subst t;subst u;exact abI B g i j v l d f w n o h p q
def lx (l:List b9) (c:Bool) (a:ByteArray) (x:PId) (b:List PId) (kind:Int) (y:cP):List b9:=
 if cM (fk a x) l<0 then
  if c then l else l++[⟨a,(0,0),jt b [] kind y⟩]
 else l.modify (cM (fk a x) l).toNat fun s=>⟨s.key,s.id,jt b s.ad kind y⟩
theorem acj(B c b:Nat)(d:Array Value)(v:Value)(l:List bD)(u x kind y z g i C D n E F:Int)(I:Bool)(j:ByteArray)(o:Value)(w:World)(k:w.heap[c]?=some (.cells d 272 (0,0)))(p:d[b+3]?=some v)(L:d[b+2]?=some (.bool true))(h:ib B w v l)(M:∃q no r,o=.slice q no r)(Q:cM (hC j (g,i)) l= -1):
  O 215 #[.pointer (some (K c b)),.agg #[A u,A x,A kind,.bool I,A y,A z,.string j,A g,A i,A C,A D,A n,A E,A F,o]] w fun e N=>
   e=.returned (.tuple #[])/\nj B w N c b d v l:=by
 obtain⟨a,s,rfl,R,S,U⟩:=bm h.1;obtain⟨q,no,r,rfl⟩:=M;have f:w.cell? (K c (b+3))=some (.slice a l.length s):=by simp[World.cell?,k,p]
 have t:w.cell? (K c (b+2))=some (.bool true):=by simp[World.cell?,k,L]
 have W:=aqd w _ f;go_enter func215,ntmps215;go_wp2_with (go_at_call 172;go_must (refine(CP B c b (.slice a l.length s) l j g i _ (by exact ae ((apY w.heap.size w).alloc (apX _) _) f) (by exact h.ae ((apY w.heap.size w).alloc (apX _) _))).mono ?_;rintro e X ⟨rfl,P⟩;have m:=((apY w.heap.size w).alloc (apX _) _).trans (P.mono (by simp));replace f:=ae m f;replace t:=ae m t))
 refine bodyPost_ret (results_none rfl _ _ _) rfl ?_;exact⟨rfl,nj.same k p h m⟩
theorem Ox {α:Type} (f:α->α) (l:List α) (k:Nat) (h:k<l.length):l.modify k f=l.set k (f l[k]):=by
 apply aq9;intro j;rw[asn,aso];by_cases e:k=j
 ·subst e;simp[h]
 simp[e]
theorem Ue(b:List PId)(a:List cP)(kind:Int)(y:cP):(jt b a kind y).length<=a.length+1:=by
 unfold jt;have :(unnamed b a).length<=a.length:=aqR _ _;rw[ap4];split <;>simp <;>omega
theorem ack(B t r g:Nat)(i:Array Value)(v:Value)(l:List bD)(ku:l.length<=t)(z:∀s∈l,s.ad.length<=t)(htt:t<100000)(P:Bool)(j m kind C D c d E F n o q:Int)(I:Bool)(f:ByteArray)(L:Value)(u:List PId)(w:World)(Q:w.heap[r]?=some (.cells i 272 (0,0)))(R:i[g+3]?=some v)(W:i[g+2]?=some (.bool P))(h:ib B w v l)(X:B<=w.heap.size)(S:eE w L u):
  O 215 #[.pointer (some (K r g)),.agg #[A j,A m,A kind,.bool I,A C,A D,.string f,A c,A d,A E,A F,A n,A o,A q,L]] w fun e M=>
   e=.returned (.tuple #[])/\∃N,nj B w M r g i v N/\N.map bD.p=lx (l.map bD.p) P f (c,d) u kind ⟨(j,m),n,(o,q)⟩/\N.length<=t+1/\∀s∈N,s.ad.length<=t+1:=by
 have aE:=yY (hC f (c,d)) l;have kN:=CR (hC f (c,d)) l;by_cases U:cM (hC f (c,d)) l<0
 ·cases P with
  |true=>
   obtain⟨ju,co,rfl,_⟩:=bm S;refine(acj B r g i v l j m kind C D c d E F n o q I f _ w Q R W h ⟨_,_,_,rfl⟩ (by omega)).mono fun e M ⟨x,y⟩=>⟨x,l,y,?_,by omega,fun s b=>by have :=z s b;omega⟩
   unfold lx;rw[KR,if_pos U];rfl
  |false=>
   refine(ab6 B r g i v l (by omega) j m kind C D c d E F n o q I f L u w Q R W h X S (by omega)).mono fun e M ⟨x,ig,y⟩=>⟨x,_,y,?_,by simp;omega,fun s b=> ?_⟩
   ·unfold lx;rw[KR,if_pos U];simp[bD.p]
   rcases ap7.1 b with b|b
   ·have :=z s b;omega
   simp at b;subst b;have :=Ue u [] kind ⟨(j,m),n,(o,q)⟩;simp at this⊢;omega
 obtain⟨k,Y⟩:=arl (a:=cM (hC f (c,d)) l) (by omega);have dZ:k<l.length:=by omega
 have AP:=z l[k] (ap6 _);refine(abW B r g i v l k dZ l[k].ad rfl (by omega) j m kind C D c d E F n o q I f L u w Q R h X S Y).mono fun e M ⟨x,ig,y⟩=>⟨x,_,y,?_,by rw[arD];omega,fun s b=> ?_⟩
 ·unfold lx;rw[KR,if_neg U,Y];rw[List.map_set,Ox _ _ _ (by simpa using dZ)];simp[bD.p]
 rcases List.mem_or_eq_of_mem_set b with b|rfl
 ·have :=z s b;omega
 have :=Ue u l[k].ad kind ⟨(j,m),n,(o,q)⟩;simp;omega
structure bH where
 id:PId
 kind:Int
 list:Bool
 object:PId
 key:ByteArray
 element:PId
 behind:PId
 num:Int
 obj:PId
 old:List PId
variable {y Q:List bH}
def bH.held (p:bH):cP:=⟨p.id,p.num,p.obj⟩
def jw (x:PId) (o:bg):Bool:=eF o.id.1 o.id.2 x.1 x.2
def gq (p:bH) (o:bg):bg:=
 if p.kind=2 then(if o.list then⟨o.id,o.list,qe o.ss p.behind p.id⟩ else o)
 else if o.list=p.key.toList.isEmpty then⟨o.id,o.list,lx o.ss o.list p.key p.element p.old p.kind p.held⟩ else o
def cc (d:List bg) (p:bH):List bg:=
 if p.kind=1 then d++[⟨p.id,p.list,[]⟩]
 else if cM (jw p.object) d<0 then d
 else d.modify (cM (jw p.object) d).toNat (gq p)
theorem KT(x:PId)(a:List dE):cM (jw x) (a.map dE.p)=cM (lu x) a:=by
 rw[Ua];rfl
def Uf (p:bH) (a:Value):Value:=.agg #[A p.id.1,A p.id.2,A p.kind,.bool p.list,A p.object.1,A p.object.2,.string p.key,A p.element.1,A p.element.2,A p.behind.1,A p.behind.2,A p.num,A p.obj.1,A p.obj.2,a]
theorem fq.more(h:fq b d k a P r)(q:J k j)(t:j.grownBy c P.ownBlock)(F:c.ownsRow b 272 4 i (r.length+1) ((r++[(⟨E,I,.slice none 0 0,[]⟩:dE)]).flatMap k0)):
  fq b (d+1) (c.setCell (H a) i) a i (r++[(⟨E,I,.slice none 0 0,[]⟩:dE)])/\mi b k (c.setCell (H a) i):=by
 have u:=h.ae q;have hdv:some a≠P.ownBlock:=by
  intro e;obtain⟨m,w⟩:=bq h.af.1 e.symm;exact absurd (bK h.ai w) (by decide)
 have L:c.heap[a]?=some (.cells #[P] 277 (0,0)):=by rw[t.block a u.lt hdv];exact u.ai
 have B:∀l,l≠a->(c.setCell (H a) i).heap[l]?=c.heap[l]?:=fun l C=>aqr _ _ _ _ C
 have M:∀g,P.ownBlock=some g->∃m,j.heap[g]?=some (.cells m 272 (0,0)):=fun g t=>bq u.af.1 t
 have N:∀(g:Nat) (m:Array Value) (e:TypeId),j.heap[g]?=some (.cells m e (0,0))->e≠272->e≠277->(c.setCell (H a) i).heap[g]?=j.heap[g]?:=by
  intro g m e Q R D;have jr:g≠a:=by intro v;subst v;exact D (bK Q u.ai)
  rw[B g jr,t.block g (ap8.1 Q).1 (fun v=>by obtain⟨b7,S⟩:=M g v.symm;simp_all)]
 refine⟨⟨?_,h.hB,⟨?_,?_,?_⟩,?_,?_⟩,?_⟩
 ·simp[World.setCell,ars,L]
 ·refine⟨by simpa using F.1,?_⟩;rcases F.2 with⟨U,aw⟩|⟨g,cap,cur,U,W,x,rest⟩
  ·omega
  refine .inr ⟨g,cap,cur,by simpa using U,W,?_,by simpa using rest⟩;rw[B g (by intro e;subst e;exact absurd (bK x L) (by decide))];exact x
 ·intro o p;rcases ap7.1 p with p|p
  ·refine KP (u.af.2.1 o p) (fun g gj=> ?_) (fun g m w=>N g m _ w (by decide) (by decide));obtain⟨m,w⟩:=bq (u.af.2.1 o p).1 gj;exact N g m _ w (by decide) (by decide)
  simp at p;subst p;exact⟨aqe _ _ _ _,fun s y=>by simp at y⟩
 ·intro l n C au iE;rw[ap4,aq1]at C au;by_cases z:l<r.length
  ·by_cases X:n<r.length
   ·rw[arv z,arv X];exact h.af.2.2 l n z X iE
   rw[arv z];have :n=r.length:=by omega
   subst this;cases W:r[l].hr.ownBlock with
   |none=>exact .inl rfl
   |some g=>right;simp[Value.ownBlock]
  have :l=r.length:=by omega
  subst this
  left;simp[Value.ownBlock]
 ·rw[ap4];have :=h.hn;simp;omega
 ·intro o p;rcases ap7.1 p with p|p
  ·exact⟨by have :=(h.ad o p).1;omega,fun s y=>by have :=(h.ad o p).2 s y;omega⟩
  simp at p;subst p;exact⟨by simp,fun s y=>by simp at y⟩
 have hBd:=h.hB;refine⟨⟨t.os.trans q.os,t.tape.trans q.tape,t.output.trans q.output,?_,fun l C=> ?_⟩,fun g m e f x R D al=> ?_⟩
 ·have :=t.size;have :=q.size;simp[World.setCell];omega
 ·have z:l<k.heap.size:=by have :=h.lt;omega
  rw[B l (by omega),t.block l (by have :=q.size;omega) (fun e=>by have :=(ap1 h.af.1 l e.symm).1;omega),q.block l z]
 have Y:=(ap8.1 x).1;have Oz:j.heap[g]?=some (.cells m e f):=by rw[q.block g Y];exact x
 rw[B g (fun v=>by subst v;exact R (bK Oz u.ai)),t.block g (by have :=q.size;omega) (fun v=>by obtain⟨b7,S⟩:=M g v.symm;exact D (bK Oz S)),q.block g Y]
theorem acm{a:Act}(i:M.guard=none)(s x:Operand)(k:M.op=.call {callee:=.builtin .append,args:= #[s,x],argTypes:= #[275,275]})(b:Nat)(v:Value)(l:List dE)(m:a.eval s=v)(n:c.ownsRow b 272 4 v l.length (l.flatMap k0))(g d:Nat)(y:dE)(o:a.eval x=.slice (some (H g)) 1 d)(p:∀j u,(k0 y)[j]?=some u->c.cell? (K g j)=some u)(q:∀u∈k0 y,u.oneCell'=true)(t:l.length<10000000)(r:b<=c.heap.size)(h:∀e f,f.ownsRow b 272 4 e (l.length+1) ((l++[y]).flatMap k0)->c.grownBy f v.ownBlock->iR c v e->F (a.put M.dst e) f):
  if Region.wanted M (yielded B a.tmps)=true then Oper.wp prog M a c F C else N:=
 xO k0 4 48 275 272 (.agg #[A 0,A 0,.bool false,.slice none 0 0]) (by kernel_rfl) underlying275 rfl (by omega) (fun _=>rfl)
  i s x k b v l m n g d y o p q (by omega) (by unfold maxLen;omega) r h
theorem acn{a:Int}:∀j u,(k0 ⟨(D,a),I,.slice none 0 0,[]⟩)[j]?=some u->(c.alloc (.cells #[A D,A a,.bool I,.slice none 0 0] 272)).cell? (V c j)=some u:=by
 intro j u b;rw[asm _ _ _ _ rfl]
 match j with
 |0=>assumption
 |1=>assumption
 |2=>assumption
 |3=>assumption
 |j+4=>assumption
theorem aco:∀u∈k0 ⟨E,I,.slice none 0 0,[]⟩,u.oneCell'=true:=by
 intro u a;simp[k0]at a;rcases a with rfl|rfl|rfl|rfl<;>rfl
theorem acp(B t d:Nat)(v:Value)(f:List dE)(aG:t<100000)(C:Value)(i j P Q R S U W n X D:Int)(k:Bool)(Y:ByteArray)(w:World)(h:fq B t w d v f)(Ow:∃E no F,C=.slice E no F):
  O 192 #[Z d,.agg #[A i,A j,A 1,.bool k,A P,A Q,.string Y,A R,A S,A U,A W,A n,A X,A D,C]] w fun e I=>
   e=.returned (.tuple #[])/\∃v',fq B (t+1) I d v' (f++[⟨(i,j),k,.slice none 0 0,[]⟩])/\mi B w I:=by
 obtain⟨a,u,rfl,jq,cZ,fK⟩:=bm h.af.1;obtain⟨E,no,F,rfl⟩:=Ow;have x:=h.cell;have y:=h.C0;have z:=h.lt;have hBd:=h.hB;have C1:=h.hn;have hBw:B<=w.heap.size:=by omega
 clear fK;have L:Hq (some d≠(Value.slice a f.length u).ownBlock):=by
  intro e;obtain⟨c,hc⟩:=bq h.af.1 e.symm;exact absurd (bK h.ai hc) (by decide)
 have m:=aa h;clear h;go_enter func192,ntmps192;go_wp2;generalize l:w.alloc _=b;have g:J w b:=by rw[<-l];exact(apY _ w).alloc (apX _) _
 have jx:b.cell? (V w 0)=some (A i):=by rw[<-l];simp[go_sem]
 have q1:b.cell? (V w 1)=some (A j):=by rw[<-l];simp[go_sem]
 have xQ:b.cell? (V w 3)=some (.bool k):=by rw[<-l];simp[go_sem]
 clear l;replace x:=ae g x;replace y:=(g.frozen (p:=(H d)) z).trans y;have hz0:=g.size;replace z:d<b.heap.size:=by omega
 have qc:w.heap.size<b.heap.size:=aqd b _ jx;replace m:=aa (m.o.ae g);have a7:=aa g;clear g;go_region_law (refine acm rfl (.tmp 13) (.tmp 19) rfl B (.slice a f.length u) f (by simp[Act.eval,Act.put]) ?h1 b.heap.size 1 ⟨(i,j),k,.slice none 0 0,[]⟩ (by simp[Act.eval,Act.put]) ?h2 ?al ?aL ?b1 ?_;(case h1=>exact m.o.af.1.alloc _);(case h2=>exact acn);(case al=>exact aco);(case aL=>omega);(case b1=>simp;omega);intro D M q r jJ;have s:J b (b.alloc (.cells #[A i,A j,.bool k,.slice none 0 0] 272)).drew:=((apY _ b).alloc (apX _) _).drew;have gC:M.cell? (H d)=some (.slice a f.length u):=r.cell (ae s x) L.o;have rI:M.frozen? (H d)=false:=(ass (a:=(H d)) (r.block d (by simp;omega) L.o)).trans ((s.frozen (p:=(H d)) z).trans y);have N:=aa (m.o.more s r q);obtain⟨a2,bc,iS,_,_,_⟩:=bm q;subst iS;clear s r jJ;have jZ:=aa q;clear q)
 all_goals(try go_wp2)
 all_goals refine bodyPost_ret (results_none rfl _ _ _) rfl ?_
 all_goals exact⟨rfl,_,N.o.1,(mi.cJ a7.o hBw).trans N.o.2⟩
theorem acq(B t d:Nat)(v:Value)(b:List dE)(N:t<100000)(k:Value)(q:List PId)(r s kind c f u x y z n C D:Int)(E:Bool)(F:ByteArray)(w:World)(h:fq B t w d v b)(g:eE w k q)(P:¬kind=1)(Q:cM (lu (c,f)) b= -1):
  O 192 #[Z d,.agg #[A r,A s,A kind,.bool E,A c,A f,.string F,A u,A x,A y,A z,A n,A C,A D,k]] w fun e l=>
   e=.returned (.tuple #[])/\fq B t l d v b/\mi B w l:=by
 obtain⟨R,S,rfl,_,_,_⟩:=bm g;have U:=h.lt;have I:B<=w.heap.size:=by have :=h.hB;omega
 have i:=aa h;have W:=aa g;clear g;obtain⟨a,L,rfl,_,_,_⟩:=bm h.af.1;have X:=h.cell;clear h;go_enter func192,ntmps192;go_wp2_with (go_at_call 174;go_must (refine(CN B d (.slice a b.length L) b c f _ ?av ?ab).mono ?_;(case av=>exact(i.o.ae ((apY w.heap.size w).alloc (apX _) _)).cell);(case ab=>exact(i.o.ae ((apY w.heap.size w).alloc (apX _) _)).af);rintro e M ⟨rfl,m⟩;have j:J w M:=((apY w.heap.size w).alloc (apX _) _).trans (m.mono (by simp));clear m;have Y:=j.size;have p:=aa j;clear j))
 refine bodyPost_ret (results_none rfl _ _ _) rfl ?_;exact⟨rfl,i.o.ae p.o,mi.cJ p.o I⟩
theorem acr(B t d:Nat)(v:Value)(c:List dE)(aG:t<100000)(s:Value)(u:List PId)(x y kind g i z C D E n F I:Int)(L:Bool)(M:ByteArray)(w:World)(h:fq B t w d v c)(l:eE w s u)(df:¬kind=1)(k:Nat)(W:k<c.length)(sF:cM (lu (g,i)) c=(k:Int))(X:kind=2)(Y:c[k].list=false):
  O 192 #[Z d,.agg #[A x,A y,A kind,.bool L,A g,A i,.string M,A z,A C,A D,A E,A n,A F,A I,s]] w fun e N=>
   e=.returned (.tuple #[])/\fq B t N d v c/\mi B w N:=by
 obtain⟨ju,co,rfl,_,_,_⟩:=bm l;have hx:=h.lt;have hBw:B<=w.heap.size:=by have :=h.hB;omega
 have m:=aa h;have tO:=aa l;clear l;obtain⟨p,cap,cm,aF,C2,q,za,cZ,gB,nN,r,P⟩:=h.row W;unfold maxLen at cZ;subst aF;have Q:=h.cell;have j:w.cell? (K p (k*4+2))=some (.bool c[k].list):=by simp[World.cell?,q,r]
 have Fb:p<w.heap.size:=aqd w _ j;have R:=(h.ad c[k] (ap6 _));have S:=h.af.2.1 c[k] (ap6 _);have k4:=aa R;clear R;have mj:=aa S;clear S;have oM:=aa q;clear q;have ml:=aa r;clear r;have rK:=aa P;clear P;clear gB nN;rw[Y]at j;have lP:=aa Q;have rH:=aa j;subst X;clear h;go_enter func192,ntmps192;go_wp2_with (go_at_call 174;go_must (refine(CN B d (.slice (some (H p)) c.length cap) c g i _ ?av ?ab).mono ?_;(case av=>exact(m.o.ae ((apY w.heap.size w).alloc (apX _) _)).cell);(case ab=>exact(m.o.ae ((apY w.heap.size w).alloc (apX _) _)).af);rintro e w1 ⟨rfl,b⟩;have f:J w w1:=((apY w.heap.size w).alloc (apX _) _).trans (b.mono (by simp));have sG:=ae (a:=(V w 0)) (v:=A x) b (by simp[go_sem]);have CT:=ae (a:=(V w 1)) (v:=A y) b (by simp[go_sem]);have CU:=ae (a:=(V w 2)) (v:=A 2) b (by simp[go_sem]);have OA:=ae (a:=(V w 3)) (v:=.bool L) b (by simp[go_sem]);have OB:=ae (a:=(V w 4)) (v:=A g) b (by simp[go_sem]);have OC:=ae (a:=(V w 5)) (v:=A i) b (by simp[go_sem]);have Hj:=ae (a:=(V w 6)) (v:=.string M) b (by simp[go_sem]);have OD:=ae (a:=(V w 7)) (v:=A z) b (by simp[go_sem]);have OE:=ae (a:=(V w 8)) (v:=A C) b (by simp[go_sem]);have OG:=ae (a:=(V w 9)) (v:=A D) b (by simp[go_sem]);have OH:=ae (a:=(V w 10)) (v:=A E) b (by simp[go_sem]);have CV:=ae (a:=(V w 11)) (v:=A n) b (by simp[go_sem]);have CW:=ae (a:=(V w 12)) (v:=A F) b (by simp[go_sem]);have CX:=ae (a:=(V w 13)) (v:=A I) b (by simp[go_sem]);have E2:=ae (a:=(V w 14)) (v:=.slice ju u.length co) b (by simp[go_sem]);replace Q:=ae f lP.o;replace j:=ae f rH.o;clear b;have hz1:=f.size;have U:=aa f;clear f))
 refine bodyPost_ret (results_none rfl _ _ _) rfl ?_;exact⟨rfl,m.o.ae U.o,mi.cJ U.o hBw⟩
theorem acs(B t d:Nat)(v:Value)(b:List dE)(aG:t<100000)(E:Value)(F:List PId)(f g kind q r I L i j n M N:Int)(P:Bool)(Q:ByteArray)(w:World)(h:fq B t w d v b)(x:eE w E F)(df:¬kind=1)(k:Nat)(R:k<b.length)(sF:cM (lu (q,r)) b=(k:Int))(c3:kind=2)(hl:b[k].list=true):
  O 192 #[Z d,.agg #[A f,A g,A kind,.bool P,A q,A r,.string Q,A I,A L,A i,A j,A n,A M,A N,E]] w fun e S=>
   e=.returned (.tuple #[])/\(∃v',fq B (t+1) S d v (b.set k ⟨b[k].id,b[k].list,v',wo b[k].ss (i,j) (f,g)⟩))/\mi B w S:=by
 obtain⟨ju,co,rfl,_,_,_⟩:=bm x;have hx:=h.lt;have hBw:B<=w.heap.size:=by have :=h.hB;omega
 have y:=aa h;have tO:=aa x;clear x;obtain⟨l,cap,cm,aF,C2,z,za,cZ,gB,nN,C,U⟩:=h.row R;unfold maxLen at cZ;subst aF;have W:=h.cell;have u:w.cell? (K l (k*4+2))=some (.bool b[k].list):=by simp[World.cell?,z,C]
 have X:l<w.heap.size:=aqd w _ u;have Y:=(h.ad b[k] (ap6 _));have kq:=h.af.2.1 b[k] (ap6 _);have D:=aa Y;clear Y;have mj:=aa kq;clear kq;have oM:=aa z;clear z;have ml:=aa C;clear C;have rK:=aa U;clear U;clear gB nN;rw[hl]at u;have lP:=aa W;have rH:=aa u;subst c3;clear h;go_enter func192,ntmps192;go_wp2_with (first
  |(go_at_call 174;go_must (refine(CN B d (.slice (some (H l)) b.length cap) b q r _ ?av ?ab).mono ?_;(case av=>exact(y.o.ae ((apY w.heap.size w).alloc (apX _) _)).cell);(case ab=>exact(y.o.ae ((apY w.heap.size w).alloc (apX _) _)).af);rintro e w1 ⟨rfl,c⟩;have m:J w w1:=((apY w.heap.size w).alloc (apX _) _).trans (c.mono (by simp));have sG:=ae (a:=(V w 0)) (v:=A f) c (by simp[go_sem]);have CT:=ae (a:=(V w 1)) (v:=A g) c (by simp[go_sem]);have CU:=ae (a:=(V w 2)) (v:=A 2) c (by simp[go_sem]);have OA:=ae (a:=(V w 3)) (v:=.bool P) c (by simp[go_sem]);have OB:=ae (a:=(V w 4)) (v:=A q) c (by simp[go_sem]);have OC:=ae (a:=(V w 5)) (v:=A r) c (by simp[go_sem]);have Hj:=ae (a:=(V w 6)) (v:=.string Q) c (by simp[go_sem]);have OD:=ae (a:=(V w 7)) (v:=A I) c (by simp[go_sem]);have OE:=ae (a:=(V w 8)) (v:=A L) c (by simp[go_sem]);have OG:=ae (a:=(V w 9)) (v:=A i) c (by simp[go_sem]);have OH:=ae (a:=(V w 10)) (v:=A j) c (by simp[go_sem]);have CV:=ae (a:=(V w 11)) (v:=A n) c (by simp[go_sem]);have CW:=ae (a:=(V w 12)) (v:=A M) c (by simp[go_sem]);have CX:=ae (a:=(V w 13)) (v:=A N) c (by simp[go_sem]);have E2:=ae (a:=(V w 14)) (v:=.slice ju F.length co) c (by simp[go_sem]);replace W:=ae m lP.o;replace u:=ae m rH.o;clear c;have hz1:=m.size;have p:=aa m;clear m))
  |(go_at_call 214;go_must (refine(aci B l (k*4) cm b[k].hr b[k].ss i j f g w1 ?av ?ab ?hc ?ai ?he).mono ?_;(case av=>rw[p.o.block l X];exact oM.o);(case ab=>exact rK.o);(case hc=>exact mj.o.ae p.o);(case ai=>have :=D.o.1;omega);(case he=>omega);rintro e w2 ⟨rfl,hu⟩;have gr:=aa ((y.o.ae p.o).upd R rfl (by rw[p.o.block l X];exact oM.o) hu (by have :=(Ud b[k].ss (i,j) (f,g)).1;have :=D.o.1;omega) (fun s ad=>by rcases(Ud b[k].ss (i,j) (f,g)).2 s ad with h|h;(have :=D.o.2 s h;omega);(rw[h];simp)));clear hu)))
 refine bodyPost_ret (results_none rfl _ _ _) rfl ?_;exact⟨rfl,gr.o.1,(mi.cJ p.o hBw).trans gr.o.2⟩
theorem acu(B t d:Nat)(v:Value)(c:List dE)(aG:t<100000)(x:Value)(y:List PId)(z C kind g i D E F I n L M:Int)(N:Bool)(l:ByteArray)(w:World)(h:fq B t w d v c)(m:eE w x y)(df:¬kind=1)(k:Nat)(X:k<c.length)(sF:cM (lu (g,i)) c=(k:Int))(c3:¬kind=2)(p:Bool)(Y:c[k].list=p)(he:l.toList.isEmpty= !p):
  O 192 #[Z d,.agg #[A z,A C,A kind,.bool N,A g,A i,.string l,A D,A E,A F,A I,A n,A L,A M,x]] w fun e P=>
   e=.returned (.tuple #[])/\fq B t P d v c/\mi B w P:=by
 obtain⟨ju,co,rfl,_,_,_⟩:=bm m;have hx:=h.lt;have hBw:B<=w.heap.size:=by have :=h.hB;omega
 have q:=aa h;have tO:=aa m;clear m;obtain⟨r,cap,cm,aF,C2,s,za,cZ,gB,nN,u,Q⟩:=h.row X;unfold maxLen at cZ;subst aF;have R:=h.cell;have j:w.cell? (K r (k*4+2))=some (.bool c[k].list):=by simp[World.cell?,s,u]
 have Fb:r<w.heap.size:=aqd w _ j;have S:=(h.ad c[k] (ap6 _));have U:=h.af.2.1 c[k] (ap6 _);have k4:=aa S;clear S;have mj:=aa U;clear U;have oM:=aa s;clear s;have ml:=aa u;clear u;have rK:=aa Q;clear Q;clear gB nN;rw[Y]at j;have lP:=aa R;have rH:=aa j;clear h;go_enter func192,ntmps192;go_wp2_with (go_at_call 174;go_must (refine(CN B d (.slice (some (H r)) c.length cap) c g i _ ?av ?ab).mono ?_;(case av=>exact(q.o.ae ((apY w.heap.size w).alloc (apX _) _)).cell);(case ab=>exact(q.o.ae ((apY w.heap.size w).alloc (apX _) _)).af);rintro e w1 ⟨rfl,b⟩;have f:J w w1:=((apY w.heap.size w).alloc (apX _) _).trans (b.mono (by simp));have sG:=ae (a:=(V w 0)) (v:=A z) b (by simp[go_sem]);have CT:=ae (a:=(V w 1)) (v:=A C) b (by simp[go_sem]);have CU:=ae (a:=(V w 2)) (v:=A kind) b (by simp[go_sem]);have OA:=ae (a:=(V w 3)) (v:=.bool N) b (by simp[go_sem]);have OB:=ae (a:=(V w 4)) (v:=A g) b (by simp[go_sem]);have OC:=ae (a:=(V w 5)) (v:=A i) b (by simp[go_sem]);have Hj:=ae (a:=(V w 6)) (v:=.string l) b (by simp[go_sem]);have OD:=ae (a:=(V w 7)) (v:=A D) b (by simp[go_sem]);have OE:=ae (a:=(V w 8)) (v:=A E) b (by simp[go_sem]);have OG:=ae (a:=(V w 9)) (v:=A F) b (by simp[go_sem]);have OH:=ae (a:=(V w 10)) (v:=A I) b (by simp[go_sem]);have CV:=ae (a:=(V w 11)) (v:=A n) b (by simp[go_sem]);have CW:=ae (a:=(V w 12)) (v:=A L) b (by simp[go_sem]);have CX:=ae (a:=(V w 13)) (v:=A M) b (by simp[go_sem]);have E2:=ae (a:=(V w 14)) (v:=.slice ju y.length co) b (by simp[go_sem]);replace R:=ae f lP.o;replace j:=ae f rH.o;clear b;have hz1:=f.size;have W:=aa f;clear f))
 cases p
 all_goals go_region
 all_goals(try go_wp2)
 all_goals go_end0
 all_goals exact⟨rfl,q.o.ae W.o.drew,mi.cJ W.o.drew hBw⟩
theorem acv(B t d:Nat)(v:Value)(b:List dE)(aG:t<100000)(X:Value)(j:List PId)(l m kind q r s u F I n x y:Int)(L:Bool)(g:ByteArray)(w:World)(h:fq B t w d v b)(P:eE w X j)(df:¬kind=1)(k:Nat)(Y:k<b.length)(sF:cM (lu (q,r)) b=(k:Int))(c3:¬kind=2)(Q:Bool)(hl:b[k].list=Q)(he:g.toList.isEmpty=Q):
  O 192 #[Z d,.agg #[A l,A m,A kind,.bool L,A q,A r,.string g,A s,A u,A F,A I,A n,A x,A y,X]] w fun e z=>
   e=.returned (.tuple #[])/\(∃D i,fq B (t+1) z d v (b.set k ⟨b[k].id,b[k].list,D,i⟩)/\i.map bD.p=lx (b[k].ss.map bD.p) b[k].list g (s,u) j kind ⟨(l,m),n,(x,y)⟩)/\mi B w z:=by
 obtain⟨ju,co,rfl,_,_,_⟩:=bm P;have hx:=h.lt;have hBw:B<=w.heap.size:=by have :=h.hB;omega
 have R:=aa h;have tO:=aa P;clear P;obtain⟨f,cap,cm,aF,C2,S,za,cZ,gB,nN,U,iT⟩:=h.row Y;unfold maxLen at cZ;subst aF;have ah:=h.cell;have M:w.cell? (K f (k*4+2))=some (.bool b[k].list):=by simp[World.cell?,S,U]
 have Fb:f<w.heap.size:=aqd w _ M;have kv:=(h.ad b[k] (ap6 _));have kq:=h.af.2.1 b[k] (ap6 _);have k4:=aa kv;clear kv;have mj:=aa kq;clear kq;have oM:=aa S;clear S;have ml:=aa U;clear U;have rK:=aa iT;clear iT;clear gB nN;rw[hl]at M;have lP:=aa ah;have rH:=aa M;clear h;go_enter func192,ntmps192;go_wp2_with (go_at_call 174;go_must (refine(CN B d (.slice (some (H f)) b.length cap) b q r _ ?av ?ab).mono ?_;(case av=>exact(R.o.ae ((apY w.heap.size w).alloc (apX _) _)).cell);(case ab=>exact(R.o.ae ((apY w.heap.size w).alloc (apX _) _)).af);rintro e w1 ⟨rfl,c⟩;have E:J w w1:=((apY w.heap.size w).alloc (apX _) _).trans (c.mono (by simp));have sG:=ae (a:=(V w 0)) (v:=A l) c (by simp[go_sem]);have CT:=ae (a:=(V w 1)) (v:=A m) c (by simp[go_sem]);have CU:=ae (a:=(V w 2)) (v:=A kind) c (by simp[go_sem]);have OA:=ae (a:=(V w 3)) (v:=.bool L) c (by simp[go_sem]);have OB:=ae (a:=(V w 4)) (v:=A q) c (by simp[go_sem]);have OC:=ae (a:=(V w 5)) (v:=A r) c (by simp[go_sem]);have Hj:=ae (a:=(V w 6)) (v:=.string g) c (by simp[go_sem]);have OD:=ae (a:=(V w 7)) (v:=A s) c (by simp[go_sem]);have OE:=ae (a:=(V w 8)) (v:=A u) c (by simp[go_sem]);have OG:=ae (a:=(V w 9)) (v:=A F) c (by simp[go_sem]);have OH:=ae (a:=(V w 10)) (v:=A I) c (by simp[go_sem]);have CV:=ae (a:=(V w 11)) (v:=A n) c (by simp[go_sem]);have CW:=ae (a:=(V w 12)) (v:=A x) c (by simp[go_sem]);have CX:=ae (a:=(V w 13)) (v:=A y) c (by simp[go_sem]);have E2:=ae (a:=(V w 14)) (v:=.slice ju j.length co) c (by simp[go_sem]);replace ah:=ae E lP.o;replace M:=ae E rH.o;clear c;have hz1:=E.size;have ay:=aa E;clear E))
 have dT:∀W,J w1 W->O 215 #[.pointer (some (K f (k*4))),.agg #[A l,A m,A kind,.bool L,A q,A r,.string g,A s,A u,A F,A I,A n,A x,A y,.slice ju j.length co]] W fun e z=>
   e=.returned (.tuple #[])/\(∃D i,fq B (t+1) z d (.slice (some (H f)) b.length cap) (b.set k ⟨b[k].id,b[k].list,D,i⟩)/\i.map bD.p=lx (b[k].ss.map bD.p) b[k].list g (s,u) j kind ⟨(l,m),n,(x,y)⟩)/\mi B w z:=by
  intro W eI;have C:J w W:=ay.o.trans (eI.mono hz1);have Uh:W.heap[f]?=some (.cells cm 272 (0,0)):=by rw[C.block f Fb];exact oM.o
  refine(ack B t f (k*4) cm b[k].hr b[k].ss k4.o.1 k4.o.2 aG b[k].list l m kind q r s u F I n x y L g _ j W Uh rK.o ml.o (mj.o.ae C) (by have :=C.size;omega) (tO.o.ae C)).mono ?_;rintro e z ⟨he,i,N,lQ,AQ,ie⟩;obtain⟨⟨D,rL⟩,ab⟩:=(R.o.ae C).upd Y rfl Uh N AQ ie;exact⟨he,⟨D,i,rL,lQ⟩,(mi.cJ C hBw).trans ab⟩
 have HVH:=aa dT;clear dT;cases Q
 all_goals go_region
 all_goals go_wp2_with (go_at_call 215;go_must (refine(HVH.o _ ?hw).mono ?_;(case hw=>exact below_drewN (apY _ _) _);rintro e w2 ⟨rfl,N⟩;have gr:=aa N;clear N))
 all_goals go_end0
 all_goals exact⟨rfl,gr.o⟩
theorem Ui(c:a<r.length)(d:Value)(b:List bD)(f:bg->bg)(e:f r[a].p=⟨r[a].id,r[a].list,b.map bD.p⟩):
  (r.set a ⟨r[a].id,r[a].list,d,b⟩).map dE.p=(r.map dE.p).modify a f:=by
 rw[List.map_set,Ox _ _ _ (by simpa using c),aqH,e];rfl
theorem acw {α:Type} (f:α->α) (l:List α) (k:Nat) (h:k<l.length) (a:f l[k]=l[k]):l.modify k f=l:=by
 rw[Ox f l k h,a,List.set_getElem_self]
theorem acx{p:bH}{o:bg}(a:¬p.kind=2)(h:o.list=p.key.toList.isEmpty):gq p o=⟨o.id,o.list,lx o.ss o.list p.key p.element p.old p.kind p.held⟩:=by
 unfold gq;rw[if_neg a,if_pos h]
theorem acy{p:bH}{o:bg}(a:¬p.kind=2)(h:¬o.list=p.key.toList.isEmpty):gq p o=o:=by
 unfold gq;rw[if_neg a,if_neg h]
theorem acz(B t d:Nat)(v:Value)(b:List dE)(y:t<100000)(s:Value)(p:bH)(w:World)(h:fq B t w d v b)(z:eE w s p.old):
  O 192 #[Z d,Uf p s] w fun e o=>
   e=.returned (.tuple #[])/\∃u W,fq B (t+1) o d u W/\W.map dE.p=cc (b.map dE.p) p/\mi B w o:=by
 obtain⟨⟨C,D⟩,kind,E,⟨c,g⟩,m,⟨F,I⟩,⟨L,M⟩,n,⟨N,P⟩,Q⟩:=p;unfold Uf;by_cases q:kind=1
 ·subst q;obtain⟨ju,co,rfl,_⟩:=bm z;refine(acp B t d v b y _ C D c g F I L M n N P E m w h ⟨_,_,_,rfl⟩).mono fun e o ⟨i,u,j,l⟩=>⟨i,u,_,j,?_,l⟩
  simp[cc,dE.p]
 have aE:=yY (lu (c,g)) b;have kN:=CR (lu (c,g)) b;by_cases X:cM (lu (c,g)) b<0
 ·refine(acq B t d v b y s Q C D kind c g F I L M n N P E m w h z q (by omega)).mono fun e o ⟨i,j,l⟩=>⟨i,v,b,j.mono (by omega),?_,l⟩
  unfold cc;simp only[KT,if_neg q,if_pos X]
 obtain⟨k,R⟩:=arl (a:=cM (lu (c,g)) b) (by omega);have x:k<b.length:=by omega
 have acA:k<(b.map dE.p).length:=by simpa using x
 have Y:∀f,(f b[k].p=b[k].p->(b.map dE.p).modify k f=b.map dE.p):=fun f aD=>acw _ _ _ acA (by simpa using aD)
 have xR:∀p:bH,p.kind=kind->p.object=(c,g)->cc (b.map dE.p) p=(b.map dE.p).modify k (gq p):=by
  intro p eN gC;unfold cc;rw[eN,gC,KT,if_neg q,if_neg X,R];rfl
 rw[xR _ rfl rfl];by_cases r:kind=2
 ·cases S:b[k].list
  ·refine(acr B t d v b y s Q C D kind c g F I L M n N P E m w h z q k x R r S).mono fun e o ⟨i,j,l⟩=>⟨i,v,b,j.mono (by omega),?_,l⟩
   rw[Y _ (by simp[gq,r,dE.p,S])]
  refine(acs B t d v b y s Q C D kind c g F I L M n N P E m w h z q k x R r S).mono fun e o ⟨i,⟨u,j⟩,l⟩=>⟨i,v,_,j,?_,l⟩
  exact Ui x u _ _ (by simp[gq,r,dE.p,S,ach])
 by_cases U:b[k].list=m.toList.isEmpty
 ·refine(acv B t d v b y s Q C D kind c g F I L M n N P E m w h z q k x R r b[k].list rfl U.symm).mono fun e o ⟨i,⟨u,l',j,al⟩,l⟩=>⟨i,v,_,j,?_,l⟩
  refine Ui x u _ _ ?_;rw[acx (by exact r) (by exact U),al];rfl
 have wz:m.toList.isEmpty= !b[k].list:=by
  revert U;cases b[k].list<;>cases m.toList.isEmpty<;>simp
 refine(acu B t d v b y s Q C D kind c g F I L M n N P E m w h z q k x R r b[k].list rfl wz).mono fun e o ⟨i,j,l⟩=>⟨i,v,b,j.mono (by omega),?_,l⟩
 rw[Y _ (acy (by exact r) (by exact U))]
def rM (a b:PId):Bool:=decide (a.1<b.1\/(a.1=b.1/\a.2<b.2))
theorem Hl(a:PId):rM a a=false:=by simp[rM]
theorem acB{b c:PId}(a:rM E b=true)(d:rM b c=true):rM E c=true:=by
 simp[rM]at *;omega
def xS (S:List bH):Prop:=S.Pairwise fun a b=>rM a.id b.id=true
def qV (a:List PId) (b:Nat->Bool) (k:Nat) (r:Int):Prop:=
 (r= -1/\∀j,j<k->b j=true)\/
 ∃i,∃c:i<a.length,i<k/\r=(i:Int)/\b i=false/\∀j (d:j<a.length),j<k->b j=false->rM a[j] a[i]=false
theorem qV.taken(h:qV v w a D)(f:w a=true):qV v w (a+1) D:=by
 rcases h with⟨b,c⟩|⟨i,g,n,b,c,k⟩
 ·refine .inl ⟨b,fun j l=> ?_⟩;by_cases e:j=a
  ·subst e;exact f
  exact c j (by omega)
 refine .inr ⟨i,g,by omega,b,c,fun j m l d=> ?_⟩;by_cases e:j=a
 ·subst e;rw[f]at d;cases d
 exact k j m (by omega) d
theorem qV.first{k:Nat}(b:k<v.length)(h:qV v w k (-1))(c:w k=false):qV v w (k+1) k:=by
 rcases h with⟨_,d⟩|⟨i,f,g,l,_⟩
 ·refine .inr ⟨k,b,by omega,rfl,c,fun j m n a=> ?_⟩;by_cases e:j=k
  ·subst e;exact Hl _
  rw[d j (by omega)]at a;cases a
 omega
theorem qV.better(c:a<v.length)(o:b<v.length)(h:qV v w a b)(d:w a=false)(f:rM v[a] v[b]=true):qV v w (a+1) a:=by
 rcases h with⟨g,_⟩|⟨i,p,q,g,r,k⟩
 ·omega
 have :b=i:=by omega
 subst this;refine .inr ⟨a,c,by omega,rfl,d,fun j l s m=> ?_⟩;by_cases e:j=a
 ·subst e;exact Hl _
 have :=k j l (by omega) m;cases n:rM v[j] v[a]
 ·rfl
 rw[acB n f]at this;cases this
theorem qV.Od(n:b<v.length)(c:a<v.length)(h:qV v w b a)(d:rM v[b] v[a]=false):qV v w (b+1) a:=by
 rcases h with⟨f,_⟩|⟨i,o,p,f,g,k⟩
 ·omega
 have :a=i:=by omega
 subst this;refine .inr ⟨a,c,by omega,rfl,g,fun j l q m=> ?_⟩;by_cases e:j=b
 ·subst e;exact d
 exact k j l (by omega) m
theorem qV.shape(h:qV v w a D):D= -1\/∃m:Nat,∃_:m<v.length,D=(m:Int):=by
 rcases h with⟨b,_⟩|⟨i,c,_,b,_⟩
 ·exact .inl b
 exact .inr ⟨i,c,b⟩
theorem acC(h:xS y):(y.map (·.id)).Nodup:=by
 unfold xS at h;rw[List.Nodup,aqN];exact h.imp fun{a b} c e=>by rw[e,Hl]at c;cases c
theorem OI(h:xS y)(c:a<y.length)(d:b<y.length)(e:a<b):rM y[a].id y[b].id=true:=
 aqT.1 h a b c d e
theorem Uj(h:xS y)(d:a<y.length):y[a].id∈(y.take b).map (·.id)↔a<b:=by
 rw[ap5];constructor
 ·rintro⟨c,g,e⟩;obtain⟨i,j,rfl⟩:=aqv.1 g;rw[aqg]at j;rw[arR]at e;have f:i<y.length:=by omega
  by_cases k:i<a
  ·have :=OI h f d k;rw[e,Hl]at this;cases this
  by_cases l:a<i
  ·have :=OI h d f l;rw[e,Hl]at this;cases this
  omega
 intro m;exact⟨y[a],by rw[aqv];exact⟨a,by rw[aqg];omega,by rw[arR]⟩,rfl⟩
theorem acD(d:Q.Perm y)(f:xS Q)(k:a<y.length)(l:∀i (c:i<y.length),w i=decide (y[i].id∈(Q.take a).map (·.id)))(p:qV (y.map (·.id)) w y.length D):∃i,∃c:i<y.length,D=(i:Int)/\y[i]=Q[a]'(by rw[d.length_eq];exact k):=by
 have m:a<Q.length:=by rw[d.length_eq];exact k
 obtain⟨j,b,n⟩:∃j,∃b:j<y.length,y[j]=Q[a]:=by
  have :Q[a]∈y:=d.mem_iff.1 (ap6 _);obtain⟨j,b,e⟩:=aqv.1 this;exact⟨j,b,e⟩
 have g:w j=false:=by
  rw[l j b,n,decide_eq_false_iff_not,Uj f m];omega
 rcases p with⟨_,h⟩|⟨i,c,_,r,h,s⟩
 ·rw[h j b]at g;cases g
 rw[ap2]at c;refine⟨i,c,r,?_⟩;have t:y[i]∈Q:=d.mem_iff.2 (ap6 _);obtain⟨q,o,eq⟩:=aqv.1 t;rw[l i c,<-eq,decide_eq_false_iff_not,Uj f o]at h;by_cases u:q=a
 ·subst u;exact eq.symm
 have v:=OI f m o (by omega);have :=s j (by simpa using b) b g;rw[aqH,aqH,n,<-eq,v]at this;cases this
theorem acE(d:Q.Perm y)(k:xS Q)(h:b<y.length)(l:∀a (f:a<y.length),w a=decide (y[a].id∈(Q.take b).map (·.id)))(f:a<y.length)(e:y[a]=Q[b]'(by rw[d.length_eq];exact h)):
  ∀j (c:j<y.length),(if j=a then true else w j)=decide (y[j].id∈(Q.take (b+1)).map (·.id)):=by
 intro j c;have m:b<Q.length:=by rw[d.length_eq];exact h
 have n:(y.map (·.id)).Nodup:=(d.map _).nodup_iff.1 (acC k);rw[aqp m,aqi,List.map_singleton];by_cases g:j=a
 ·subst g;rw[if_pos rfl];symm;rw[decide_eq_true_eq,e];simp
 rw[if_neg g,l j c];have o:y[j].id≠Q[b].id:=by
  rw[<-e];intro i;have :=(List.nodup_iff_pairwise_ne.1 n);rw[aqT]at this;rcases ast g with p|q
  ·exact this j a (by simpa using c) (by simpa using f) p (by simpa using i)
  exact this a j (by simpa using f) (by simpa using c) q (by simpa using i.symm)
 simp[o]
end Go.Proofs.YtnkpogjiiohapaaGreatDoor
