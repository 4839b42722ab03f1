/- Our own text. -/
import Derived.ArgAppend
import Derived.Test.YtnkpogjiiohapaaGreatDoorA16
import Derived.Test.YtnkpogjiiohapaaGreatDoorA32
import Derived.Test.YtnkpogjiiohapaaGreatDoorA29
import Derived.Test.YtnkpogjiiohapaaGreatDoorA09
set_option linter.unusedSimpArgs false
set_option linter.unusedVariables false
set_option maxRecDepth 1000000
set_option maxHeartbeats 1600000
namespace Go.Proofs.YtnkpogjiiohapaaGreatDoor
open Go.RowKit Tryz
variable {a b f k r w:Nat}{c u:World}{d e j:Nat->Prop}{h:bP}{l:TypeId}{m s v:Value}{n:List Value}{q:List bH}{y:Nat->List bE}{z:Nat->Nat->Nat}{B:Nat->Value}{C:fm}{D:Act}{E:Array Oper}{F:Exit->Act->World->Prop}{I:Nat->Nat->Value}{L:Oper}
def eU:Value->Option Nat
 |.slice (some a) _ b=>if b=0 then none else some a.block
 |_=>none
theorem Nb(a:Addr)(n b:Nat):eU (.slice (some a) n b)=if b=0 then none else some a.block:=rfl
theorem aae(b:Addr)(n:Nat)(h:0<a):eU (.slice (some b) n a)=some b.block:=by rw[Nb,if_neg (by omega)]
theorem Nc{c:Addr}{g:Nat}(h:eU (.slice (some c) a b)=some g):c.block=g:=by
 rw[Nb]at h;split at h
 ·cases h
 exact aqP h
structure h9 (w:World) (e:TypeId) (k:Nat) (v:Value) (n:Nat) (xs:List Value):Prop where
 len:xs.length=n*k
 at':(∃a,v=.slice a 0 0/\n=0)\/∃g off cap cur,v=.slice (some (K g off)) n cap/\0<cap/\n<=cap/\cap<=maxLen/\w.heap[g]?=some (.cells cur e (0,0))/\off+cap*k<=cur.size/\∀j u,xs[j]?=some u->cur[off+j]?=some u
theorem h9.nil(w:World)(e:TypeId)(k:Nat):h9 w e k (.slice none 0 0) 0 []:=⟨by simp,.inl ⟨none,rfl,rfl⟩⟩
theorem h9.ae{w e k v n a}{w':World}(h:h9 w e k v n a)(d:∀g,eU v=some g->w'.heap[g]?=w.heap[g]?):h9 w' e k v n a:=by
 refine⟨h.len,h.at'.imp id fun⟨g,off,cap,f,b,c,i,j,l,m⟩=>⟨g,off,cap,f,b,c,i,j,?_,m⟩⟩;rw[d g (by rw[b];exact aae _ _ c)];exact l
theorem h9.lt{w k v n d}(h:h9 w l k v n d){g:Nat}(c:eU v=some g):∃b,w.heap[g]?=some (.cells b l (0,0)):=by
 rcases h.at' with⟨a,rfl,_⟩|⟨f,i,cap,b,rfl,j,_,_,e,_⟩
 ·cases a<;>simp[eU]at c
 obtain rfl:=Nc c;exact⟨b,e⟩
theorem h9.own(t:0<a)(h:c.ownsRow f l a m b n):h9 c l a m b n:=by
 refine⟨h.1,?_⟩;rcases h.2 with⟨rfl,i⟩|⟨g,e,k,rfl,_,o,p,q,v,r⟩
 ·exact .inl ⟨none,rfl,i⟩
 by_cases s:e=0
 ·subst s;obtain rfl:b=0:=by omega
  exact .inl ⟨_,rfl,rfl⟩
 refine .inr ⟨g,0,e,k,rfl,by omega,p,q,o,by omega,fun j u d=> ?_⟩;have :=r;rw[<-this]at d;rw[art]at d;split at d
 ·rw[aqQ,<-Array.getElem?_toList];exact d
 cases d
theorem h9.cell{w}{a:Option Addr}(h:h9 w l k (.slice a b f) b n)(r:0<b):∃g c,a=some (K g c)/\b<=f/\f<=maxLen/\∀j u,n[j]?=some u->w.cell? (K g (c+j))=some u:=by
 rcases h.at' with⟨s,d,t⟩|⟨g,c,v,x,d,y,e,i,m,z,o⟩
 ·omega
 injection d with d _ p;subst d p;exact⟨g,c,rfl,e,i,fun j u q=>by simp only[World.cell?,m];exact o j u q⟩
theorem h9.tail{w}(h:h9 w l a (.slice (some (K r f)) (k+1) b) (k+1) n)(d:Option Addr)(g:0<b-1->d=some (K r (f+a))):h9 w l a (.slice d k (b-1)) k (n.drop a):=by
 refine⟨by rw[aqA,h.len,aqZ];omega,?_⟩;rcases h.at' with⟨_,_,t⟩|⟨v,x,y,i,c,z,B,C,m,D,o⟩
 ·omega
 injection c with c _ p;injection c with c;injection c with c q;subst c p q;by_cases s:b-1=0
 ·obtain rfl:k=0:=by omega
  exact .inl ⟨d,by rw[s],rfl⟩
 refine .inr ⟨r,f+a,b-1,i,by rw[g (by omega)],by omega,by omega,by omega,m,?_,fun j u e=> ?_⟩
 ·have l:b*a=(b-1)*a+a:=by
   rw[<-ar0];congr 1;omega
  omega
 rw[List.getElem?_drop]at e;have :=o (a+j) u e;rw[show f+a+j=f+(a+j) by omega];exact this
theorem aj4{P:Program}(w:World)(t x e:TypeId)(i:TypeInfo)(z:Value)(size bytes:Nat)(F:P.underlying t=some (.slice e))(I:P.info? e=some i)(R:i.zero=some z)(L:i.size=size)(S:i.bytes=bytes)(U:z.cells.size=size)(M:0<size)(v:Value)(n:Nat)(o:List Value)(aH:h9 w e size v n o)(a:Addr)(c:Nat)(b:List Value)(hl:b.length=size)(N:∀j u,b[j]?=some u->w.cell? (a.add j)=some u)(h1:∀u∈b,u.oneCell'=true)(W:n+1<=maxLen)(X:(n+1)*bytes<=140737488355328):
  ∃f d,(Builtin.append_ #[t,t] x #[v,.slice (some a) 1 c]).run P w=.ok f d/\h9 d e size f (n+1) (o++b)/\aO (fun k=>eU v=some k) w d/\∀k,eU f=some k->eU v=some k\/w.heap.size<=k:=by
 have Y:b.length=1*size:=by omega
 have hlen:=aH.len;have grown:∀{f d:_},d.ownsRow w.heap.size e size f (n+1) (o++b)->w.grownBy d none->h9 d e size f (n+1) (o++b)/\aO (fun k=>eU v=some k) w d/\∀k,eU f=some k->eU v=some k\/w.heap.size<=k:=fun{f d} q l=>by
  refine⟨h9.own M q,⟨l.os,l.tape,l.output,l.size,fun k m _=>l.block k m (by simp)⟩,fun k m=>.inr ?_⟩;rcases q.2 with⟨aj,_⟩|⟨g,r,y,aj,ab,_⟩
  ·rw[aj]at m;simp[eU]at m
  rw[aj]at m;obtain rfl:=Nc m;exact ab
 rcases aH.at' with⟨a0,rfl,rfl⟩|⟨g,h,r,y,rfl,h2,al,aL,Q,e9,ga⟩
 ·have ao:o=[]:=arb (by omega);subst ao;cases a0 with
  |none=>
   obtain⟨f,d,s,q,l,_⟩:=run_append_own (P:=P) w w.heap.size t x e i z size bytes F I R L S U M (.slice none 0 0) 0 [] (aqe _ _ _ _) a 1 c b Y N h1 W X (apX _);obtain⟨B,C,D⟩:=grown q l;exact⟨f,d,s,B,C,D⟩
  |some a0=>
   obtain⟨f,d,s,q,l⟩:=run_append_arg_grows (P:=P) w t x e i z size bytes F I R L S U M a0 0 0 [] (by simp) (fun j u p=>by simp at p) a 1 c b Y N (by omega) W X;obtain⟨B,C,D⟩:=grown q l;exact⟨f,d,s,B,C,D⟩
 by_cases wx:n+1<=r
 ·subst L;have pH:h+n*i.size+b.length<=y.size:=by
   have :(n+1)*i.size<=r*i.size:=aqV _ wx;rw[aqZ]at this;omega
  have s:=run_append_room_cells (P:=P) w t x e i F I g h n r a 1 c b (by omega) N h1 wx (fun j au=>by
   have :h+n*i.size+j<y.size:=by omega
   simp[World.cell?,Q,this]) (fun j au=>cG Q _)
  have E:=W8 (g:=g) b (h+n*i.size) w;have bT:eU (.slice (some (K g h)) n r)=some g:=aae _ _ h2;refine⟨_,_,s,⟨by rw[ap4,hlen,hl,aqZ,Nat.one_mul],.inr ⟨g,h,r,BD y (h+n*i.size) b,rfl,h2,wx,aL,W7 b _ w y Q,by rw[W6];exact e9,fun j u p=> ?_⟩⟩,⟨E.os,E.tape,E.output,E.size,fun k m bp=>E.other k m fun e=>bp (by rw[bT,e])⟩,fun k m=>.inl ?_⟩
  ·by_cases au:j<o.length
   ·rw[arY au]at p;rw[Qq,if_neg (by omega)];exact ga j u p
   rw[arZ (by omega)]at p;have AR:j-o.length<b.length:=(arB.1 p).1;rw[Qq,if_pos (by omega),show h+j-(h+n*i.size)=j-o.length by omega];exact p
  rw[bT];obtain rfl:=Nc m;rfl
 obtain⟨f,d,s,q,l⟩:=run_append_arg_grows (P:=P) w t x e i z size bytes F I R L S U M (K g h) n r o (by omega) (fun j u p=>by
  have ao:(((K g h):Addr).add j)=(K g (h+j)):=by unfold Addr.add;split <;>simp_all
  rw[ao];simp only[World.cell?,Q];exact ga j u p) a 1 c b Y N (by omega) W X
 obtain⟨B,C,D⟩:=grown q l;exact⟨f,d,s,B,C,D⟩
theorem aj5(l:List Nat):∀u∈l.flatMap pw,u.oneCell'=true:=by
 intro u b;obtain⟨n,_,a⟩:=aqq.1 b;simp[pw]at a;subst a;rfl
theorem aj6 {α:Type} {d:α->List Value} {e:Option Addr} {g:List α} (h:c.ownsRow k l f (.slice e a b) a (g.flatMap d)) (i:∀x,(d x).length=f) (j:a=g.length) (m:e=none->b=0):rF c d (.slice e a b) g:=by
 have :=Hc h i j a (apX _) b (fun _=>m);rw[aql (by omega)]at this;exact this
theorem aj7{rest:List Oper}(f:L.guard=none)(s x:Operand)(g:L.op=.call {callee:=.builtin .append,args:= #[s,x],argTypes:= #[24,24]})(B:Nat)(v:Value)(l a:List Nat)(i:D.eval s=v)(j:kH B c v l)(e:Value)(k:D.eval x=e)(m:rF c pw e a)(q:l.length+a.length<10000000)(n:B<=c.heap.size)(h:∀d b,kH B b d (l++a)->c.grownBy b v.ownBlock->wpList prog E F rest (D.put L.dst d) b):wpList prog E F (L::rest) D c:=
 Ha pw 1 8 24 3 (A 0) (by kernel_rfl) underlying24 rfl (by omega) (fun _=>rfl)
  f s x g B v l a i j e k m (aj5 a) (by omega) (by unfold maxLen;omega) n (fun d b o p=>h d b (by unfold kH;simpa using o) p)
theorem aag{w l}(h:kH 0 w m l)(t:l.length<1000000):
  O 154 #[m] w fun e d=>∃u,e=.returned u/\kH w.heap.size d u l/\J w d:=by
 obtain⟨a,c,rfl,v,x,j⟩:=bm h;have n:a=none->c=0:=fun e=>by
  subst e;rcases h.2 with⟨b,_⟩|⟨g,y,z,b,_⟩
  ·simp only[aqn]at b;exact b.2.2
  simp at b
 have p:=aa (aj6 h (fun _=>rfl) rfl n);clear h j;go_enter func154,ntmps154;go_wp2_with (at_builtin;go_must (refine aj7 rfl (.tmp 4) (.tmp 5) rfl w.heap.size (.slice none 0 0) [] l rfl ?h1 (.slice a l.length c) rfl ?h2 ?al ?aL ?_;(case h1=>exact aqe _ _ _ _);(case h2=>exact p.o);(case al=>simp;omega);(case aL=>exact apX _);intro q B f i;have r:=aa f;have s:=aa i;clear f i))
 go_ret
 exact⟨q,rfl,by simpa using r.o,(apY _ _).grown s.o (apX _) (fun k e=>by cases e)⟩
theorem e8.nums(h:e8 c f b m s v B y I z)(d:a<b):kH 0 c (I a 0) ((List.range b).map (z a)):=by
 have :=h.hH a d;unfold kH;rw[ap2,aq6];have e:((List.range b).map (z a)).flatMap pw=(List.range b).map fun i=>A (z a i):=by
  rw[List.flatMap_map];exact List.map_eq_flatMap.symm
 rw[e];exact this
theorem aj8(h:e8 c b a m s v B y I z)(d:Int)(i:¬(0<=d/\d<a)):
  O 110 #[Z b,A d] c fun e j=>e=.returned (.tuple #[.slice none 0 0,A 2])/\j=c:=by
 have f:=aa (xU h d);have g:decide (0<=d/\d<(a:Int))=false:=by simpa using i
 rw[g]at f;clear h g;go_enter func110,ntmps110;go_wp2_with fail
 refine f.o.mono ?_;rintro e k ⟨rfl,rfl⟩;go_wp2;go_ret2
 exact⟨rfl,rfl⟩
theorem aj9(h:e8 c b a m s v B y I z)(d:Nat)(f:d<a):
  O 110 #[Z b,A d] c fun e g=>∃u,e=.returned (.tuple #[u,A 0])/\kH c.heap.size g u ((List.range a).map (z d))/\J c g:=by
 have i:=aa (xU h d);have j:decide (0<=(d:Int)/\(d:Int)<(a:Int))=true:=by simp;omega
 rw[j]at i;have w:=h.hN;have k:=aa (aag (h.nums f) (by simp;omega));have x:=h.bc;obtain⟨C,D,E,F,rfl,rfl,_,L,_,cells⟩:=h.row (by omega);have r:=cells d f;have M:(0:Int)<=(d:Int):=aqc _;have N:(d:Int)<(a:Int):=by omega
 obtain⟨P,Q,l,_,_⟩:=h.C3 f;rw[l]at r k;clear h j cells l;go_enter func110,ntmps110;go_wp2_with fail
 refine i.o.mono ?_;rintro e t ⟨rfl,rfl⟩;go_wp2_with fail
 refine k.o.mono ?_;rintro e t ⟨u,rfl,n,p⟩;have q:=aa (And.intro n p);clear n p;go_wp2;go_ret2
 exact⟨u,rfl,q.o.1,q.o.2⟩
structure ep where
 aS:Value
 aJ:Value
 aU:Value
 aW:Nat->Value
 cops:Nat->List bE
 cp:Nat->Nat->Value
 xo:Nat->Nat->Value
 vl:Nat->Value
 fv:Nat->Nat->Value
 im:Nat->Nat->List fm
variable {i:ep}
structure cL (w:World) (r:Nat) (F L I:Nat->Prop) (N:Nat) (S:bP) (x:ep):Prop where
 ct:vp w r F N S.P S.has x.aS x.aJ x.aU x.aW x.cops x.cp
 wait:∀c,c<N->jE 0 w (x.cp c 1) (S.wait c)
 lost:∀c,c<N->kH 0 w (x.cp c 2) ((List.range N).map (S.lost c))
 Cr:∀c,c<N->w.ownsRow 0 24 1 (x.cp c 3) N ((List.range N).map (x.xo c))
 qG:∀c d,c<N->d<N->kH 0 w (x.xo c d) ((List.range N).map (S.known c d))
 cv:w.ownsRow 0 226 1 x.aU N ((List.range N).map x.vl)
 hl:∀i,i<N->w.ownsRow 0 249 2 (x.vl i) N ((List.range N).flatMap fun j=>[.bool (S.sh i j),x.fv i j])
 ak:∀i j,i<N->j<N->h9 w 251 3 (x.fv i j) (x.im i j).length ((x.im i j).flatMap fC)
 pm:∀i j,i<N->j<N->(x.im i j).map fm.p=S.ms i j
 each:∀i j,i<N->j<N->∀m∈x.im i j,qO w m/\(∀k,m.mB.ownBlock=some k->I k)/\∀k,m.cf.ownBlock=some k->I k
 lw:∀c,c<N->∀k,(x.cp c 1).ownBlock=some k->L k
 Al:∀c,c<N->∀k,(x.cp c 2).ownBlock=some k->L k
 Am:∀c,c<N->∀k,(x.cp c 3).ownBlock=some k->L k
 qj:∀c d,c<N->d<N->∀k,(x.xo c d).ownBlock=some k->L k
 An:∀k,x.aU.ownBlock=some k->L k
 gG:∀i,i<N->∀k,(x.vl i).ownBlock=some k->L k
 oG:∀i j,i<N->j<N->∀k,eU (x.fv i j)=some k->L k
 Ao:∀c b7,c<N->b7<N->c≠b7->∀k,(x.cp c 1).ownBlock=some k->(x.cp b7 1).ownBlock≠some k
 Cs:∀c d b7 ch,c<N->d<N->b7<N->ch<N->(c≠b7\/d≠ch)->∀k,(x.xo c d).ownBlock=some k->(x.xo b7 ch).ownBlock≠some k
 zV:∀c b7,c<N->b7<N->c≠b7->∀k,(x.cp c 2).ownBlock=some k->(x.cp b7 2).ownBlock≠some k
 EB:∀c d b7,c<N->d<N->b7<N->∀k,(x.xo c d).ownBlock=some k->(x.cp b7 2).ownBlock≠some k
 dr:∀i j,i<N->j<N->i≠j->∀k,(x.vl i).ownBlock=some k->(x.vl j).ownBlock≠some k
 Ap:∀i j lp Aq,i<N->j<N->lp<N->Aq<N->(i≠lp\/j≠Aq)->∀k,eU (x.fv i j)=some k->eU (x.fv lp Aq)≠some k
 xp:∀k,L k->¬F k
 lt:∀k,L k->k<w.heap.size
 cx:∀k,I k->k<w.heap.size
 xq:∀k,I k->¬F k
 ob:∀k,I k->¬L k
theorem qO.ft{w}(h:qO w C)(e:∀k,C.mB.ownBlock=some k->d k)(f:∀k,C.cf.ownBlock=some k->d k)(b:∀k,d k->c.heap[k]?=w.heap[k]?):qO c C:=⟨ca h.1 fun g a=>b g (e g a),ca h.2 fun g a=>b g (f g a)⟩
theorem cL.gw(f:cL u a d e j b h i)(B:u.heap.size<=c.heap.size)(hF:∀k,d k->c.heap[k]?=u.heap[k]?)(w:∀k,e k->c.heap[k]?=u.heap[k]?)(y:∀k,j k->c.heap[k]?=u.heap[k]?):cL c a d e j b h i:=by
 have F:vp c a d b h.P h.has i.aS i.aJ i.aU i.aW i.cops i.cp:=by
  have l:=f.ct;refine⟨⟨?_,l.room.hN,ca l.room.hI (fun g s=>hF g (l.rS g s)),fun n y=>⟨ca (l.room.eu n y).1 (fun g s=>hF g (l.uh n y g s)),fun o D=>ca ((l.room.eu n y).2 o D) (fun g s=>hF g (l.fold n y o D g s))⟩,ca l.room.fF (fun g s=>hF g (l.lW g s)),fun p t=>ca (l.room.hH p t) (fun g s=>hF g (l.ta p t g s)),l.room.hle,l.room.hsz⟩,l.apart,l.ops,l.b3,l.rS,l.lW,l.uh,l.ta,l.fold,fun k I=>ap3 (l.lt k I) B⟩;rw[hF a l.b3];exact l.room.aH
 exact⟨F,fun p t=>ca (f.wait p t) fun g s=>w g (f.lw p t g s),fun p t=>ca (f.lost p t) fun g s=>w g (f.Al p t g s),fun p t=>ca (f.Cr p t) fun g s=>w g (f.Am p t g s),fun p r t E=>ca (f.qG p r t E) fun g s=>w g (f.qj p r t E g s),ca f.cv fun g s=>w g (f.An g s),fun n v=>ca (f.hl n v) fun g s=>w g (f.gG n v g s),fun n q v x=>(f.ak n q v x).ae fun g s=>w g (f.oG n q v x g s),f.pm,fun n q v x m z=>⟨(f.each n q v x m z).1.ft (f.each n q v x m z).2.1 (f.each n q v x m z).2.2 y,(f.each n q v x m z).2⟩,f.lw,f.Al,f.Am,f.qj,f.An,f.gG,f.oG,f.Ao,f.Cs,f.zV,f.EB,f.dr,f.Ap,f.xp,fun k C=>ap3 (f.lt k C) B,fun k C=>ap3 (f.cx k C) B,f.xq,f.ob⟩
theorem cL.ae{w r S x}{w':World}(h:cL w r d e j a S x)(c:J w w'):cL w' r d e j a S x:=h.gw c.size (fun k b=>c.block k (h.ct.lt k b)) (fun k b=>c.block k (h.lt k b)) (fun k b=>c.block k (h.cx k b))
theorem cL.uT{N}(g:cL c r d e j N h i)(o:b<N)(s:a<N):∃p q m n,i.aU=.slice (some (H p)) N q/\N<=q/\c.cell? (K p b)=some (.slice (some (H m)) N n)/\N<=n/\i.vl b=.slice (some (H m)) N n/\c.cell? (K m (a*2))=some (.bool (h.sh b a))/\c.cell? (K m (a*2+1))=some (i.fv b a):=by
 obtain⟨l,q,v,x,_,y⟩:=bm g.cv;obtain⟨p,rfl⟩:=y b o;obtain⟨F,n,t,z,_,B⟩:=bm (g.hl b o);obtain⟨m,rfl⟩:=B a s;have w:=g.cv;rw[v]at w;have u:=g.hl b o;rw[t]at u;have C:=w.cellAt b (by omega);have D:=ir (f:=fun a=>[Value.bool (h.sh b a),i.fv b a]) (k:=2) (fun _=>rfl) u (by simp) a (by simpa using s) 0 (by omega);have E:=ir (f:=fun a=>[Value.bool (h.sh b a),i.fv b a]) (k:=2) (fun _=>rfl) u (by simp) a (by simpa using s) 1 (by omega);refine⟨p,q,m,n,v,x,by rw[C];simp[o,t],z,t,?_,?_⟩
 ·simpa using D
 simpa using E
theorem Ct{N}(g:cL c a d e j N h i)(f b:Nat)(t:f<N)(u:b<N)(z:f≠b):
  O 155 #[Z a,A f,A b] c fun k v=>(∃l m,i.vl f=.slice (some (H l)) N m/\k=.returned (.tuple #[.pointer (some (K l (b*2))),A 0]))/\v=c:=by
 have n:=aa (xU g.ct.room f);have p:=aa (xU g.ct.room b);have w:c.cell? (K a 3)=some i.aU:=by simp[World.cell?,g.ct.room.aH]
 have B:=g.ct.room.hN;obtain⟨C,D,l,m,q,E,F,I,x,_,_⟩:=g.uT t u;rw[q]at w;have r:decide (0<=(f:Int)/\(f:Int)<(N:Int))=true:=by simp;omega
 have s:decide (0<=(b:Int)/\(b:Int)<(N:Int))=true:=by simp;omega
 rw[r]at n;rw[s]at p;have L:¬((f:Int)=(b:Int)):=by omega
 have M:(0:Int)<=(f:Int):=aqc _;have P:(f:Int)<(N:Int):=by omega
 have Q:(0:Int)<=(b:Int):=aqc _;have R:(b:Int)<(N:Int):=by omega
 clear g r s q;go_enter func155,ntmps155;go_wp2_with fail
 refine n.o.mono ?_;rintro k y ⟨rfl,rfl⟩;go_wp2_with fail
 refine p.o.mono ?_;rintro k y ⟨rfl,rfl⟩;go_wp2;go_ret2
 exact⟨⟨l,m,x,rfl⟩,rfl⟩
theorem aka(l:cL c b d e j a h i)(f k:Nat)(n:f<a)(p:k<a)(w:f≠k):
  O 116 #[Z b,A f,A k] c fun m x=>m=.returned (.tuple #[A (h.ms f k).length,A 0])/\x=c:=by
 have y:=aa (Ct l f k n p w);obtain⟨E,F,I,L,_,_,_,_,z,_,B⟩:=l.uT n p;have t:(i.im f k).length=(h.ms f k).length:=by rw[<-l.pm f k n p,ap2]
 obtain⟨u,v,C⟩:∃u v,i.fv f k=.slice u (h.ms f k).length v:=by
  rw[<-t];rcases(l.ak f k n p).at' with⟨q,r,D⟩|⟨g,M,N,P,r,_⟩
  ·exact⟨q,0,by rw[r,D]⟩
  exact⟨_,_,r⟩
 rw[C]at B;clear l t;go_enter func116,ntmps116;go_wp2_with fail
 refine y.o.mono ?_;rintro m Q ⟨⟨R,S,s,rfl⟩,rfl⟩;rw[z]at s;simp only[aqn,aqo,aqx,and_true,true_and]at s;obtain⟨rfl,rfl⟩:=s;go_wp2;go_ret2
 exact⟨rfl,rfl⟩
theorem Gy(h:c.ownsRow k l r (.slice (some (H a)) b f) b n)(o:Nat)(u:Value):(c.setCell (K a o) u).ownsRow k l r (.slice (some (H a)) b f) b (n.set o u):=by
 refine⟨by rw[arD];exact h.1,?_⟩;rcases h.2 with⟨d,_⟩|⟨s,t,e,d,g,i,j,m,p,q⟩
 ·simp at d
 simp only[aqn,aqo,aqx,and_true,true_and]at d;obtain⟨rfl,rfl⟩:=d;refine .inr ⟨a,f,e.setIfInBounds o u,rfl,g,setRow i,j,m,by rw[Array.size_setIfInBounds];exact p,?_⟩;rw[Array.toList_setIfInBounds,<-q,List.take_set]
theorem Nd {α β:Type} {f g:α->List β}:∀{l:List α},(∀x∈l,f x=g x)->l.flatMap f=l.flatMap g
 |[],_=>rfl
 |y::l,h=>by rw[aqm,aqm,h y (by simp),Nd fun x a=>h x (by simp[a])]
theorem aah{a q:Nat->Value}{d:Nat}{v:Value}:∀(l:List Nat) (i:Nat),l.Nodup->l[i]?=some d->(l.flatMap fun j=>[a j,q j]).set (i*2+1) v=l.flatMap fun j=>[a j,upd q d v j]
 |[],_,_,h=>by simp at h
 |y::l,0,b,h=>by
  simp only[ard,aqo]at h;subst h;have c:y∉l:=(aqw.1 b).1;have e:(l.flatMap fun j=>[a j,q j])=l.flatMap fun j=>[a j,upd q y v j]:=Nd fun j f=>by
   rw[b6];rintro rfl;exact c f
  simp only[aqm,aqD,aqK,arM,List.set_cons_zero,Nat.zero_mul,aqQ,bF];rw[e]
 |y::l,i+1,b,h=>by
  simp only[ar2]at h;have c:y≠d:=by
   rintro rfl;exact(aqw.1 b).1 (arX h)
  have ih:=aah (a:=a) (q:=q) (v:=v) l i (aqw.1 b).2 h;rw[show(i+1)*2+1=(i*2+1)+1+1 by omega];simp only[aqm,aqD,aqK,arM];rw[ih,b6 _ _ c]
theorem aai{a q:Nat->Value}{d:Nat}{v:Value}:∀(l:List Nat) (i:Nat),l.Nodup->l[i]?=some d->(l.flatMap fun j=>[a j,q j]).set (i*2) v=l.flatMap fun j=>[upd a d v j,q j]
 |[],_,_,h=>by simp at h
 |y::l,0,b,h=>by
  simp only[ard,aqo]at h;subst h;have c:y∉l:=(aqw.1 b).1;have e:(l.flatMap fun j=>[a j,q j])=l.flatMap fun j=>[upd a y v j,q j]:=Nd fun j f=>by
   rw[b6];rintro rfl;exact c f
  simp only[aqm,aqD,aqK,List.set_cons_zero,Nat.zero_mul,bF];rw[e]
 |y::l,i+1,b,h=>by
  simp only[ar2]at h;have c:y≠d:=by
   rintro rfl;exact(aqw.1 b).1 (arX h)
  have ih:=aai (a:=a) (q:=q) (v:=v) l i (aqw.1 b).2 h;rw[show(i+1)*2=(i*2)+1+1 by omega];simp only[aqm,aqD,aqK,arM];rw[ih,b6 _ _ c]
def uU (S:bP) (c d:Nat) (b:Bool) (l:List jU):bP:={S with ms:=upd S.ms c (upd (S.ms c) d l),sh:=upd S.sh c (upd (S.sh c) d b)}
def sr (x:ep) (c d:Nat) (v:Value) (l:List fm):ep:={x with fv:=upd x.fv c (upd (x.fv c) d v),im:=upd x.im c (upd (x.im c) d l)}
theorem wb {α:Type} (f:Nat->α) (k:Nat):upd f k (f k)=f:=by
 funext j;by_cases e:j=k
 ·subst e;rw[bF]
 rw[b6 _ _ e]
theorem akb(S:bP)(c d:Nat)(l:List jU):uU S c d (S.sh c d) l=fU S c d l:=by
 unfold uU fU;rw[wb,wb]
theorem akc(S:bP)(c d:Nat):uU S c d true (S.ms c d)=yO S c d:=by
 unfold uU yO;rw[wb,wb]
theorem cL.Em{F}(s:cL u w F e d r h i)(L:f<r)(W:k<r){b:Bool}{v':Value}{cm':List fm}{I':Nat->Prop}(aG:aO (fun l=>(i.vl f).ownBlock=some l\/eU (i.fv f k)=some l) u c)(fe:c.ownsRow 0 249 2 (i.vl f) r ((List.range r).flatMap fun j=>[.bool (upd (h.sh f) k b j),upd (i.fv f) k v' j]))(hL:h9 c 251 3 v' cm'.length (cm'.flatMap fC))(de:∀l,eU v'=some l->eU (i.fv f k)=some l\/u.heap.size<=l)(cD:∀l,I' l->d l\/(l<c.heap.size/\¬F l/\¬e l/\eU v'≠some l))(oC:∀l,d l->I' l)(Jp:∀m∈cm',qO c m/\(∀l,m.mB.ownBlock=some l->I' l)/\∀l,m.cf.ownBlock=some l->I' l):
  cL c w F (fun l=>e l\/(u.heap.size<=l/\eU v'=some l)) I' r (uU h f k b (cm'.map fm.p)) (sr i f k v' cm'):=by
 have we:∀q,q<r->∀l,(i.vl q).ownBlock=some l->∃N,u.heap[l]?=some (.cells N 249 (0,0)):=fun q z l x=>bq (s.hl q z) x
 have pz:∀q j,q<r->j<r->∀l,eU (i.fv q j)=some l->∃N,u.heap[l]?=some (.cells N 251 (0,0)):=fun q j z D l x=>(s.ak q j z D).lt x
 have stay:∀l,l<u.heap.size->((i.vl f).ownBlock≠some l)->eU (i.fv f k)≠some l->c.heap[l]?=u.heap[l]?:=fun l x y M=>aG.other l x fun t=>t.elim y M
 have other:∀{t:TypeId} {l:Nat} {N:Array Value},t≠249->t≠251->u.heap[l]?=some (.cells N t (0,0))->c.heap[l]?=u.heap[l]?:=fun{t l N} y M C=>stay l (aN C)
  (fun x=>by obtain⟨hv,U⟩:=we f L l x;exact y (bK C U))
  (fun x=>by obtain⟨hv,U⟩:=pz f k L W l x;exact M (bK C U))
 have X:∀l,F l->c.heap[l]?=u.heap[l]?:=fun l x=>stay l (s.ct.lt l x) (fun t=>s.xp l (s.gG f L l t) x) (fun t=>s.xp l (s.oG f k L W l t) x)
 have hIs:∀l,d l->c.heap[l]?=u.heap[l]?:=fun l x=>stay l (s.cx l x) (fun t=>s.ob l x (s.gG f L l t)) (fun t=>s.ob l x (s.oG f k L W l t))
 have xr:vp c w F r h.P h.has i.aS i.aJ i.aU i.aW i.cops i.cp:=by
  have a:=s.ct;refine⟨⟨?_,a.room.hN,ca a.room.hI (fun g C=>X g (a.rS g C)),fun q z=>⟨ca (a.room.eu q z).1 (fun g C=>X g (a.uh q z g C)),fun o Y=>ca ((a.room.eu q z).2 o Y) (fun g C=>X g (a.fold q z o Y g C))⟩,ca a.room.fF (fun g C=>X g (a.lW g C)),fun f L=>ca (a.room.hH f L) (fun g C=>X g (a.ta f L g C)),a.room.hle,a.room.hsz⟩,a.apart,a.ops,a.b3,a.rS,a.lW,a.uh,a.ta,a.fold,fun l Q=>ap3 (a.lt l Q) aG.size⟩;rw[X w a.b3];exact a.room.aH
 have ma:∀{t:TypeId} {l n:Nat} {v:Value} {xs:List Value},t≠249->t≠251->u.ownsRow 0 t l v n xs->c.ownsRow 0 t l v n xs:=fun{t l n v xs} y M Y=>ca Y fun g C=>by
  obtain⟨N,R⟩:=bq Y C;exact other y M R
 have Sr:∀q j,(sr i f k v' cm').fv q j=if q=f/\j=k then v' else i.fv q j:=fun q j=>by
  unfold sr;simp only;by_cases B:q=f
  ·subst B;rw[bF];by_cases E:j=k
   ·subst E;rw[bF,if_pos ⟨rfl,rfl⟩]
   rw[b6 _ _ E,if_neg (fun t=>E t.2)]
  rw[b6 _ _ B,if_neg (fun t=>B t.1)]
 have cZ:∀q j,(sr i f k v' cm').im q j=if q=f/\j=k then cm' else i.im q j:=fun q j=>by
  unfold sr;simp only;by_cases B:q=f
  ·subst B;rw[bF];by_cases E:j=k
   ·subst E;rw[bF,if_pos ⟨rfl,rfl⟩]
   rw[b6 _ _ E,if_neg (fun t=>E t.2)]
  rw[b6 _ _ B,if_neg (fun t=>B t.1)]
 have e3:∀q j,(uU h f k b (cm'.map fm.p)).ms q j=if q=f/\j=k then cm'.map fm.p else h.ms q j:=fun q j=>by
  unfold uU;simp only;by_cases B:q=f
  ·subst B;rw[bF];by_cases E:j=k
   ·subst E;rw[bF,if_pos ⟨rfl,rfl⟩]
   rw[b6 _ _ E,if_neg (fun t=>E t.2)]
  rw[b6 _ _ B,if_neg (fun t=>B t.1)]
 have aE:∀l,eU v'=some l->l<c.heap.size:=fun l x=>by obtain⟨N,R⟩:=hL.lt x;exact aN R
 refine⟨xr,fun a I=>ma (by decide) (by decide) (s.wait a I),fun a I=>ma (by decide) (by decide) (s.lost a I),fun a I=>ma (by decide) (by decide) (s.Cr a I),fun a b I ab=>ma (by decide) (by decide) (s.qG a b I ab),ma (by decide) (by decide) s.cv,?_,?_,?_,?_,
  fun a I l x=>.inl (s.lw a I l x),fun a I l x=>.inl (s.Al a I l x),fun a I l x=>.inl (s.Am a I l x),fun a b I ab l x=>.inl (s.qj a b I ab l x),fun l x=>.inl (s.An l x),fun q z l x=>.inl (s.gG q z l x),?_,s.Ao,s.Cs,s.zV,s.EB,s.dr,?_,?_,?_,?_,?_,?_⟩
 ·intro q z;by_cases B:q=f
  ·subst B;have t:(fun j=>[Value.bool ((uU h q k b (cm'.map fm.p)).sh q j),(sr i q k v' cm').fv q j])=fun j=>[.bool (upd (h.sh q) k b j),upd (i.fv q) k v' j]:=by
    funext j;unfold uU sr;simp only[bF]
   show c.ownsRow 0 _ 2 (i.vl q) r ((List.range r).flatMap fun j=>[Value.bool ((uU h q k b (cm'.map fm.p)).sh q j),(sr i q k v' cm').fv q j]);rw[t];exact fe
  have t:(fun j=>[Value.bool ((uU h f k b (cm'.map fm.p)).sh q j),(sr i f k v' cm').fv q j])=fun j=>[.bool (h.sh q j),i.fv q j]:=by
   funext j;unfold uU sr;simp only[b6 _ _ B]
  show c.ownsRow 0 _ 2 (i.vl q) r ((List.range r).flatMap fun j=>[Value.bool ((uU h f k b (cm'.map fm.p)).sh q j),(sr i f k v' cm').fv q j]);rw[t];refine ca (s.hl q z) fun g C=> ?_
  obtain⟨N,R⟩:=we q z g C;refine stay g (aN R) (fun x=>s.dr q f z L B g C x) fun x=> ?_
  obtain⟨hv,U⟩:=pz f k L W g x;exact absurd (bK R U) (by decide)
 ·intro q j z D;rw[Sr,cZ];by_cases B:q=f/\j=k
  ·rw[if_pos B,if_pos B];exact hL
  rw[if_neg B,if_neg B];refine(s.ak q j z D).ae fun g C=> ?_
  obtain⟨N,R⟩:=pz q j z D g C;refine stay g (aN R) (fun x=> ?_) fun x=>s.Ap q j f k z D L W (Decidable.or_iff_not_not_and_not.2 fun t=>B ⟨asH.1 t.1,asH.1 t.2⟩) g C x
  obtain⟨hv,U⟩:=we f L g x;exact absurd (bK R U) (by decide)
 ·intro q j z D;rw[cZ,e3];split
  ·rfl
  exact s.pm q j z D
 ·intro q j z D m hm;rw[cZ]at hm;split at hm
  ·exact Jp m hm
  obtain⟨y,M,al⟩:=s.each q j z D m hm;exact⟨y.ft M al hIs,fun l x=>oC l (M l x),fun l x=>oC l (al l x)⟩
 ·intro q j z D l x;rw[Sr]at x;split at x
  ·rcases de l x with y|y
   ·exact .inl (s.oG f k L W l y)
   exact .inr ⟨y,x⟩
  exact .inl (s.oG q j z D l x)
 ·intro q j lp Aq z D eS pZ S l x Q;rw[Sr]at x Q;split at x
  ·rename_i B
   split at Q
   ·rename_i E
    obtain⟨rfl,rfl⟩:=B;rcases S with S|S
    ·exact S E.1.symm
    exact S E.2.symm
   obtain⟨rfl,rfl⟩:=B;rcases de l x with y|y
   ·exact s.Ap q j lp Aq z D eS pZ S l y Q
   exact absurd (s.lt l (s.oG lp Aq eS pZ l Q)) (by omega)
  split at Q
  ·rename_i E
   obtain⟨rfl,rfl⟩:=E;rcases de l Q with y|y
   ·exact s.Ap q j lp Aq z D eS pZ S l x y
   exact absurd (s.lt l (s.oG q j z D l x)) (by omega)
  exact s.Ap q j lp Aq z D eS pZ S l x Q
 ·rintro l (x|⟨x,_⟩)
  ·exact s.xp l x
  exact fun t=>absurd (s.ct.lt l t) (by omega)
 ·rintro l (x|⟨_,x⟩)
  ·exact ap3 (s.lt l x) aG.size
  exact aE l x
 ·intro l x;rcases cD l x with y|y
  ·exact ap3 (s.cx l y) aG.size
  exact y.1
 ·intro l x;rcases cD l x with y|y
  ·exact s.xq l y
  exact y.2.1
 rintro l x (M|⟨M,al⟩)
 ·rcases cD l x with y|y
  ·exact s.ob l y M
  exact y.2.2.1 M
 rcases cD l x with y|y
 ·exact absurd (s.cx l y) (by omega)
 exact y.2.2.2 al
theorem Ss {α:Type} (f:α->List Value) (size bytes:Nat) (t e:TypeId) (z:Value) (o:(prog.info? e).map (fun i=>(i.zero,i.size,i.bytes))=some (some z,size,bytes))
  (p:prog.underlying t=some (.slice e)) (q:z.cells.size=size) (r:0<size) (w:∀x,(f x).length=size)
  {a:Act->World->Prop} {d:Prop}
  (B:L.guard=none) (s x:Operand) (C:L.op=.call {callee:=.builtin .append,args:= #[s,x],argTypes:= #[t,t]}) (v:Value) (l:List α) (I:D.eval s=v)
  (M:h9 c e size v l.length (l.flatMap f)) (g b:Nat) (y:α) (N:D.eval x=.slice (some (H g)) 1 b)
  (Q:∀j u,(f y)[j]?=some u->c.cell? (K g j)=some u) (R:∀u∈f y,u.oneCell'=true) (S:(l.length+1)*bytes<=140737488355328) (p9:l.length<maxLen)
  (h:∀m n,h9 n e size m (l.length+1) ((l++[y]).flatMap f)->aO (fun k=>eU v=some k) c n->(∀k,eU m=some k->eU v=some k\/c.heap.size<=k)->a (D.put L.dst m) n):
  if Region.wanted L (yielded E D.tmps)=true then Oper.wp prog L D c a F else d:=by
 have U:Region.wanted L (yielded E D.tmps)=true:=by simp[Region.wanted,B]
 rw[if_pos U];obtain⟨i,W,X,Y,ez⟩:=info_parts o;obtain⟨m,n,aH,h2,al,aL⟩:=aj4 (P:=prog) c t L.type e i z size bytes p W X Y ez q r v l.length (l.flatMap f) M (H g) b (f y) (by rw[w])
  (fun j u hu=>by
   have :((H g):Addr).add j=(K g j):=by unfold Addr.add;split <;>simp_all
   rw[this];exact Q j u hu) R (by omega) S
 unfold Oper.wp execOp;simp only[C,resolve,invoke,builtin,aqt,aq4,aqz,arQ,aqj,aqY,I,N,aH];exact h m n (by simpa using h2) al aL
def sv (F L I:Nat->Prop) (k:Nat):Prop:=F k\/L k\/I k
def jb (r N:Nat) (F L I:Nat->Prop) (e:Nat->Value) (w a:World) (f:bP):Prop:=∃b c I' d,cL a r b c I' N f d/\c6 (sv F L I) (sv b c I') w a/\(∀k,I k->I' k/\a.heap[k]?=w.heap[k]?)/\d.vl=e
theorem cL.left{w}(f:cL w a d e j b h i)(g:J w c):jb a b d e j i.vl w c h:=⟨d,e,j,i,f.ae g,c6.cJ g,fun k l=>⟨l,g.block k (f.cx k l)⟩,rfl⟩
theorem cL.EC{l}(n:cL c f d e j b h i)(U:Own b h.P h.has a q)(C:gN c u f b i.aS i.aJ i.aU i.aW i.cops i.cp h.has a q l B y z):jb f b d e j i.vl c u (jF h a (l.map bE.p)):=by
 have Y:z=fun v s=>if v=a/\s=a then(h.P a++l.map bE.p).length else h.has v s:=by
  rw[C.ad];funext v s;by_cases r:v=a/\s=a
  ·simp[r,U.all]
  simp only[r,if_false]
 have t:=n.ct;have xr:vp u f (fun k=>d k\/(c.heap.size<=k/\k<u.heap.size)) b (jF h a (l.map bE.p)).P (jF h a (l.map bE.p)).has i.aS i.aJ i.aU B y i.cp:=by
  refine⟨by unfold jF;simp only;rw[<-Y];exact C.wr.room,C.wr.apart,?_,.inl t.b3,fun k x=>.inl (t.rS k x),fun k x=>.inl (t.lW k x),?_,fun v S k x=>.inl (t.ta v S k x),?_,?_⟩
  ·intro s D;unfold jF;simp only;rw[C.ops];by_cases r:s=a
   ·subst r;rw[bF,bF,aqi,t.ops s D]
   rw[b6 _ _ r,b6 _ _ r,t.ops s D]
  ·intro s D k x;by_cases r:s=a
   ·subst r;rcases C.new with W|W
    ·exact .inl (t.uh s D k (by rw[<-W];exact x))
    exact .inr ⟨W k x,(ap1 (C.wr.room.eu s D).1 k x).2⟩
   rw[C.aC s r]at x;exact .inl (t.uh s D k x)
  ·intro s D o M k x;have L:=M;rw[C.ops]at L;by_cases r:s=a
   ·subst r;rw[bF]at L;rcases ap7.1 L with L|L
    ·exact .inl (t.fold s D o L k x)
    exact .inr ⟨C.De o L k x,(ap1 ((C.wr.room.eu s D).2 o M) k x).2⟩
   rw[b6 _ _ r]at L;exact .inl (t.fold s D o L k x)
  intro k x;rcases x with x|x
  ·exact ap3 (t.lt k x) C.size
  exact x.2
 have X:∀k,k<c.heap.size->¬d k->u.heap[k]?=c.heap[k]?:=fun k x R=>C.other k x (fun r=>R (t.rS k r.symm)) (fun r=>R (t.ta a U.hc k r.symm)) (fun r=>R (t.uh a U.hc k r.symm))
 have N:∀k,e k->u.heap[k]?=c.heap[k]?:=fun k x=>X k (n.lt k x) (n.xp k x)
 have D:∀k,j k->u.heap[k]?=c.heap[k]?:=fun k x=>X k (n.cx k x) (n.xq k x)
 refine⟨fun k=>d k\/(c.heap.size<=k/\k<u.heap.size),e,j,{i with aW:=B,cops:=y},⟨xr,fun a F=>ca (n.wait a F) fun g E=>N g (n.lw a F g E),fun a F=>ca (n.lost a F) fun g E=>N g (n.Al a F g E),fun a F=>ca (n.Cr a F) fun g E=>N g (n.Am a F g E),fun a v F S=>ca (n.qG a v F S) fun g E=>N g (n.qj a v F S g E),ca n.cv fun g E=>N g (n.An g E),fun s I=>ca (n.hl s I) fun g E=>N g (n.gG s I g E),fun s w I Q=>(n.ak s w I Q).ae fun g E=>N g (n.oG s w I Q g E),n.pm,fun s w I Q m M=>⟨(n.each s w I Q m M).1.ft (n.each s w I Q m M).2.1 (n.each s w I Q m M).2.2 D,(n.each s w I Q m M).2⟩,n.lw,n.Al,n.Am,n.qj,n.An,n.gG,n.oG,n.Ao,n.Cs,n.zV,n.EB,n.dr,n.Ap,?_,fun k x=>ap3 (n.lt k x) C.size,fun k x=>ap3 (n.cx k x) C.size,?_,n.ob⟩,⟨C.os,C.tape,C.output,C.size,fun k x R=>X k x fun r=>R (.inl r),?_⟩,fun k x=>⟨x,D k x⟩,rfl⟩
 ·rintro k x (r|r)
  ·exact n.xp k x r
  exact absurd (n.lt k x) (by omega)
 ·rintro k x (r|r)
  ·exact n.xq k x r
  exact absurd (n.cx k x) (by omega)
 rintro k ((r|r)|r|r)
 ·exact .inl (.inl r)
 ·exact .inr r.1
 ·exact .inl (.inr (.inl r))
 exact .inl (.inr (.inr r))
theorem akd(g:cL c b d e j f h i)(p:Own f h.P h.has a q)(r s n:Int)(o:ByteArray)(x:o.size<=maxLen):
  O 94 #[Z b,A a,.agg #[A r,A s],.string o,A n] c fun k t=>
   (∃m,ub (q.foldl cc c4) (bX q) (h.P a).length a (r,s) o n=.error m/\k=.returned (A m)/\jb b f d e j i.vl c t h)\/
   (∃u,ub (q.foldl cc c4) (bX q) (h.P a).length a (r,s) o n=.ok u/\k=.returned (A 0)/\jb b f d e j i.vl c t (jF h a u)):=by
 have y:(i.cops a).length=(h.P a).length:=by rw[<-g.ct.ops a p.hc,ap2]
 rw[<-y];refine(aeo (g.ct.yf p) p.top r s n o x).mono fun k t z=> ?_
 rcases z with⟨m,v,w,B⟩|⟨u,v,w,l,D,E,F,rfl,C⟩
 ·exact .inl ⟨m,v,w,g.left B⟩
 exact .inr ⟨_,v,w,g.EC p C⟩
theorem ake(g:cL c b d e j f h i)(o:Own f h.P h.has a q)(p r:Int)(n:ByteArray)(x:n.size<=maxLen)(s:Bool):
  O 95 #[Z b,A a,.agg #[A p,A r],.string n,.bool s] c fun k t=>
   (∃m,uc (q.foldl cc c4) (bX q) (h.P a).length a (p,r) n s=.error m/\k=.returned (.tuple #[.agg #[A 0,A 0],A m])/\jb b f d e j i.vl c t h)\/
   (∃u,uc (q.foldl cc c4) (bX q) (h.P a).length a (p,r) n s=.ok u/\k=.returned (.tuple #[.agg #[A (bX q+1),A a],A 0])/\jb b f d e j i.vl c t (jF h a u)):=by
 have y:(i.cops a).length=(h.P a).length:=by rw[<-g.ct.ops a o.hc,ap2]
 rw[<-y];refine(aeq (g.ct.yf o) o.top p r n x s).mono fun k t z=> ?_
 rcases z with⟨m,v,w,B⟩|⟨u,v,w,l,D,E,F,rfl,C⟩
 ·exact .inl ⟨m,v,w,g.left B⟩
 exact .inr ⟨_,v,w,g.EC o C⟩
theorem akf(g:cL c b d e j f h i)(o:Own f h.P h.has a q)(p r:Int)(n:ByteArray)(w:n.size<=maxLen):
  O 97 #[Z b,A a,.agg #[A p,A r],.string n] c fun k s=>
   (∃m,sU (q.foldl cc c4) (bX q) (h.P a).length a (p,r) n=.error m/\k=.returned (A m)/\jb b f d e j i.vl c s h)\/
   (∃t,sU (q.foldl cc c4) (bX q) (h.P a).length a (p,r) n=.ok t/\k=.returned (A 0)/\jb b f d e j i.vl c s (jF h a t)):=by
 have x:(i.cops a).length=(h.P a).length:=by rw[<-g.ct.ops a o.hc,ap2]
 rw[<-x];refine(aep (g.ct.yf o) o.top p r n w).mono fun k s y=> ?_
 rcases y with⟨m,u,v,z⟩|⟨t,u,v,l,C,D,E,rfl,B⟩
 ·exact .inl ⟨m,u,v,g.left z⟩
 exact .inr ⟨_,u,v,g.EC o B⟩
theorem akg(g:cL c b d e j f h i)(p:Own f h.P h.has a q)(r s k n:Int):
  O 98 #[Z b,A a,.agg #[A r,A s],A k,A n] c fun o t=>
   (∃m,sV (q.foldl cc c4) (bX q) (h.P a).length a (r,s) k n=.error m/\o=.returned (.tuple #[.agg #[A 0,A 0],A m])/\jb b f d e j i.vl c t h)\/
   (∃u,sV (q.foldl cc c4) (bX q) (h.P a).length a (r,s) k n=.ok u/\o=.returned (.tuple #[.agg #[A (bX q+1),A a],A 0])/\jb b f d e j i.vl c t (jF h a u)):=by
 have x:(i.cops a).length=(h.P a).length:=by rw[<-g.ct.ops a p.hc,ap2]
 rw[<-x];refine(aer (g.ct.yf p) p.top r s k n).mono fun o t y=> ?_
 rcases y with⟨m,v,w,z⟩|⟨u,v,w,l,C,D,E,rfl,B⟩
 ·exact .inl ⟨m,v,w,g.left z⟩
 exact .inr ⟨_,v,w,g.EC p B⟩
theorem akh(g:cL c b d e j f h i)(o:Own f h.P h.has a q)(p r k:Int)(s:Bool):
  O 100 #[Z b,A a,.agg #[A p,A r],A k,.bool s] c fun n t=>
   (∃m,sW (q.foldl cc c4) (bX q) (h.P a).length a (p,r) k s=.error m/\n=.returned (.tuple #[.agg #[A 0,A 0],A m])/\jb b f d e j i.vl c t h)\/
   (∃u,sW (q.foldl cc c4) (bX q) (h.P a).length a (p,r) k s=.ok u/\n=.returned (.tuple #[.agg #[A (bX q+1),A a],A 0])/\jb b f d e j i.vl c t (jF h a u)):=by
 have x:(i.cops a).length=(h.P a).length:=by rw[<-g.ct.ops a o.hc,ap2]
 rw[<-x];refine(aev (g.ct.yf o) o.top p r k s).mono fun n t y=> ?_
 rcases y with⟨m,v,w,z⟩|⟨u,v,w,l,C,D,E,rfl,B⟩
 ·exact .inl ⟨m,v,w,g.left z⟩
 exact .inr ⟨_,v,w,g.EC o B⟩
theorem aki(g:cL c b d e j f h i)(p:Own f h.P h.has a q)(r s k n:Int):
  O 101 #[Z b,A a,.agg #[A r,A s],A k,A n] c fun o t=>
   (∃m,kD (q.foldl cc c4) (bX q) (h.P a).length a (r,s) k 3 n=.error m/\o=.returned (A m)/\jb b f d e j i.vl c t h)\/
   (∃u,kD (q.foldl cc c4) (bX q) (h.P a).length a (r,s) k 3 n=.ok u/\o=.returned (A 0)/\jb b f d e j i.vl c t (jF h a u)):=by
 have x:(i.cops a).length=(h.P a).length:=by rw[<-g.ct.ops a p.hc,ap2]
 rw[<-x];refine(aeI (g.ct.yf p) p.top r s k n).mono fun o t y=> ?_
 rcases y with⟨m,v,w,z⟩|⟨u,v,w,l,C,D,E,rfl,B⟩
 ·exact .inl ⟨m,v,w,g.left z⟩
 exact .inr ⟨_,v,w,g.EC p B⟩
theorem akj(g:cL c b d e j f h i)(o:Own f h.P h.has a q)(p r k:Int):
  O 102 #[Z b,A a,.agg #[A p,A r],A k] c fun n s=>
   (∃m,kD (q.foldl cc c4) (bX q) (h.P a).length a (p,r) k 4 0=.error m/\n=.returned (A m)/\jb b f d e j i.vl c s h)\/
   (∃t,kD (q.foldl cc c4) (bX q) (h.P a).length a (p,r) k 4 0=.ok t/\n=.returned (A 0)/\jb b f d e j i.vl c s (jF h a t)):=by
 have w:(i.cops a).length=(h.P a).length:=by rw[<-g.ct.ops a o.hc,ap2]
 rw[<-w];refine(aeJ (g.ct.yf o) o.top p r k).mono fun n s x=> ?_
 rcases x with⟨m,u,v,y⟩|⟨t,u,v,l,B,C,D,rfl,z⟩
 ·exact .inl ⟨m,u,v,g.left y⟩
 exact .inr ⟨_,u,v,g.EC o z⟩
theorem cL.aaj{W v'}(n:cL c w e d j r h i)(t:a<r)(v:f<r){cm':List fm}{I':Nat->Prop}(y:aO (fun l=>eU (i.fv a f)=some l) c W)(E:h9 W 251 3 v' cm'.length (cm'.flatMap fC))(S:∀l,eU v'=some l->eU (i.fv a f)=some l\/c.heap.size<=l)(F:∀l,I' l->j l\/(l<W.heap.size/\¬e l/\¬d l/\eU v'≠some l))(U:∀l,j l->I' l)(X:∀m∈cm',qO W m/\(∀l,m.mB.ownBlock=some l->I' l)/\∀l,m.cf.ownBlock=some l->I' l){I:Nat}(z:i.vl a=.slice (some (H k)) r I):
  cL (W.setCell (K k (f*2+1)) v') w e (fun l=>d l\/(c.heap.size<=l/\eU v'=some l)) I' r (fU h a f (cm'.map fm.p)) (sr i a f v' cm')/\aO d c (W.setCell (K k (f*2+1)) v'):=by
 have u:(i.vl a).ownBlock=some k:=by rw[z];rfl
 obtain⟨Y,B⟩:=bq (n.hl a t) u;have L:k<c.heap.size:=aN B;have M:eU (i.fv a f)≠some k:=fun o=>by
  obtain⟨hv,C⟩:=(n.ak a f t v).lt o;exact absurd (bK B C) (by decide)
 have aak:W.heap[k]?=some (.cells Y 249 (0,0)):=by rw[y.other k L M];exact B
 have Su:W.ownsRow 0 249 2 (.slice (some (H k)) r I) r ((List.range r).flatMap fun q=>[.bool (h.sh a q),i.fv a q]):=by
  rw[<-z];exact ca (n.hl a t) fun g x=>by
   rw[u]at x;injection x with x;subst x;exact y.other k L M
 have N:aO (fun l=>(i.vl a).ownBlock=some l\/eU (i.fv a f)=some l) c (W.setCell (K k (f*2+1)) v'):=(y.mono fun l s=>.inr s).trans (aO.kU v' (.inl u));have hsz:(W.setCell (K k (f*2+1)) v').heap.size=W.heap.size:=by simp
 have P:=n.Em t v (b:=h.sh a f) (v':=v') (cm':=cm') (I':=I') N (by
   have :=Gy Su (f*2+1) v';rw[aah (List.range r) f List.nodup_range (by rw[asG v])]at this;rw[z,wb];exact this) (E.ae fun l s=>dy fun o=>by
    subst o;obtain⟨hv,C⟩:=E.lt s;exact absurd (bK aak C) (by decide)) S (fun l s=>by rw[hsz];exact F l s) U (fun m hm=>by
   obtain⟨h1,Q,R⟩:=X m hm;refine⟨h1.ft Q R fun l s=>dy fun o=> ?_,Q,R⟩;subst o;rcases F l s with D|D
   ·exact n.ob l D (n.gG a t l u)
   exact D.2.2.1 (n.gG a t l u))
 rw[akb]at P;exact⟨P,N.mono fun l s=>s.elim (n.gG a t l) (n.oG a f t v l)⟩
theorem cL.stored{W v'}(n:cL c k e j d a h i)(x:b<a)(y:f<a){cm':List fm}{I':Nat->Prop}(z:aO (fun g=>eU (i.fv b f)=some g) c W)(B:h9 W 251 3 v' cm'.length (cm'.flatMap fC))(C:∀g,eU v'=some g->eU (i.fv b f)=some g\/c.heap.size<=g)(u:∀g,I' g->d g\/(c.heap.size<=g/\g<W.heap.size/\eU v'≠some g))(v:∀g,d g->I' g)(D:∀m∈cm',qO W m/\(∀g,m.mB.ownBlock=some g->I' g)/\∀g,m.cf.ownBlock=some g->I' g)(E:i.vl b=.slice (some (H r)) a w):
  jb k a e j d i.vl c (W.setCell (K r (f*2+1)) v') (fU h b f (cm'.map fm.p)):=by
 obtain⟨F,q⟩:=n.aaj x y z B C (fun g o=>(u g o).imp id fun l=>⟨l.2.1,fun s=>absurd (n.ct.lt g s) (by omega),fun s=>absurd (n.lt g s) (by omega),l.2.2⟩) v D E;refine⟨_,_,_,_,F,⟨q.os,q.tape,q.output,q.size,fun g o I=>q.other g o fun l=>I (.inr (.inl l)),?_⟩,fun g o=>⟨v g o,q.other g (n.cx g o) (n.ob g o)⟩,rfl⟩;rintro g (l|(l|l)|l)
 ·exact .inl (.inl l)
 ·exact .inl (.inr (.inl l))
 ·exact .inr l.1
 rcases u g l with t|t
 ·exact .inl (.inr (.inr t))
 exact .inr t.1
theorem cL.akk{p}(n:cL c p e j d r h i)(s:f<r)(t:k<r){F:Nat}(v:i.vl f=.slice (some (H w)) r F):jb p r e j d i.vl c (c.setCell (K w (k*2)) (.bool true)) (yO h f k):=by
 have x:(i.vl f).ownBlock=some w:=by rw[v];rfl
 obtain⟨N,y⟩:=bq (n.hl f s) x;have P:w<c.heap.size:=aN y;have u:aO (fun l=>(i.vl f).ownBlock=some l\/eU (i.fv f k)=some l) c (c.setCell (K w (k*2)) (.bool true)):=aO.kU _ (.inl x);have z:=n.Em s t (b:=true) (v':=i.fv f k) (cm':=i.im f k) (I':=d) u (by
   have B:=n.hl f s;rw[v]at B;have :=Gy B (k*2) (.bool true);rw[aai (a:=fun o=>.bool (h.sh f o)) (List.range r) k List.nodup_range (by rw[asG t])]at this;rw[v,wb];have g:(fun o=>[upd (fun o=>Value.bool (h.sh f o)) k (.bool true) o,i.fv f o])=fun o=>[.bool (upd (h.sh f) k true o),i.fv f o]:=by
    funext o;by_cases g:o=k
    ·subst g;rw[bF,bF]
    rw[b6 _ _ g,b6 _ _ g]
   rw[g]at this;exact this) ((n.ak f k s t).ae fun l q=>dy fun g=>by
    subst g;obtain⟨Q,I⟩:=(n.ak f k s t).lt q;exact absurd (bK y I) (by decide)) (fun l q=>.inl q) (fun l q=>.inl q) (fun l q=>q) (fun m L=>by
   obtain⟨M,C,D⟩:=n.each f k s t m L;refine⟨M.ft C D fun l q=>dy fun g=> ?_,C,D⟩;subst g;exact n.ob l q (n.gG f s l x))
 rw[n.pm f k s t,akc]at z;refine⟨_,_,_,_,z,⟨u.os,u.tape,u.output,u.size,fun l q E=>u.other l q fun g=> ?_,?_⟩,fun l q=>⟨q,u.other l (n.cx l q) fun g=>n.ob l q (g.elim (n.gG f s l) (n.oG f k s t l))⟩,rfl⟩
 ·rcases g with g|g
  ·exact E (.inr (.inl (n.gG f s l g)))
  exact E (.inr (.inl (n.oG f k s t l g)))
 rintro l (g|(g|g)|g)
 ·exact .inl (.inl g)
 ·exact .inl (.inr (.inl g))
 ·exact .inr g.1
 exact .inl (.inr (.inr g))
theorem cL.queue(l:cL c r d e j f h i)(o:a<f)(p:b<f):∃s t,i.fv a b=.slice s (h.ms a b).length t/\(h.ms a b).length<=t/\(0<(h.ms a b).length->∃g m,s=some (K g m)):=by
 have u:(i.im a b).length=(h.ms a b).length:=by rw[<-l.pm a b o p,ap2]
 rw[<-u];rcases(l.ak a b o p).at' with⟨q,n,v⟩|⟨g,m,x,y,n,z,w,_⟩
 ·exact⟨q,0,by rw[n,v],by omega,fun k=>by omega⟩
 exact⟨_,_,n,w,fun _=>⟨g,m,rfl⟩⟩
theorem cL.first{w r F S x}(h:cL w r F e d f S x)(j:a<f)(o:b<f){g s n t:Nat}{p:jU}{y:List jU}(U:S.ms a b=p::y)(I:x.fv a b=.slice (some (K g s)) (n+1) t)(X:n=y.length):∃m l,x.im a b=m::l/\m.p=p/\l.map fm.p=y/\qO w m/\w.cell? (K g s)=some (.bool p.q)/\w.cell? (K g (s+1))=some m.mB/\w.cell? (K g (s+2))=some m.cf/\
  ∀{z L:Nat} (M:x.vl a=.slice (some (H z)) f L) (i:Option Addr) (B:0<t-1->i=some (K g (s+3))),jb r f F e d x.vl w (w.setCell (K z (b*2+1)) (.slice i n (t-1))) (fU S a b y):=by
 have u:=h.pm a b j o;rw[U]at u
 match C:x.im a b,u with
 |m::l,u=>
  rw[aqj]at u;injection u with N D;have P:l.length=n:=by rw[X,<-D,ap2]
  have E:=h.ak a b j o;rw[C,I,aqk,P]at E;have v:=E.cell (by omega);obtain⟨g',aaf,Q,_,_,v⟩:=v;simp only[aqo,aqx,and_true]at Q;obtain⟨rfl,rfl⟩:=Q;have Y:=v 0 (.bool m.p.q) rfl;have dx:=v 1 m.mB rfl;have cV:=v 2 m.cf rfl;refine⟨m,l,rfl,N,D,(h.each a b j o m (by rw[C];simp)).1,by rw[<-N];exact Y,dx,cV,fun{z L} M i B=> ?_⟩;have :=h.stored j o (W:=w) (v':=.slice i n (t-1)) (cm':=l) (I':=d) ⟨rfl,rfl,rfl,apX _,fun _ _ _=>rfl⟩ (by rw[P];exact E.tail i B) (fun k c=>.inl (by
    rw[I,Nb];by_cases R:t-1=0
    ·rw[R]at c;cases i<;>simp[eU]at c
    rw[B (by omega),Nb,if_neg R]at c;rw[if_neg (by omega)];exact c)) (fun k c=>.inl c) (fun k c=>c) (fun m' eB=>h.each a b j o m' (by rw[C];simp[eB])) M
  rw[D]at this;exact this
theorem akl(q:cL c b d e j a h i)(f k:Nat)(w:f<a)(B:k<a)(Q:f≠k):
  O 117 #[Z b,A f,A k] c fun r R=>r=.returned (A (if h.ms f k=[] then 12 else 0))/\jb b a d e j i.vl c R (if h.ms f k=[] then h else Ez h f k):=by
 have F:=aa (Ct q f k w B Q);obtain⟨tC,nz,I,fB,_,_,_,_,x,_,s⟩:=q.uT w B;obtain⟨pe,S,v,C,y⟩:=q.queue w B;have L:=s;rw[v]at s;have U:=aa q;by_cases t:h.ms f k=[]
 ·rw[if_pos t,if_pos t];rw[t]at s;simp only[aqC]at s;clear q t L y C v;go_enter func117,ntmps117;go_wp2_with fail
  refine F.o.mono ?_;rintro r W ⟨⟨X,Y,u,rfl⟩,rfl⟩;rw[x]at u;simp only[aqn,aqo,aqx,and_true,true_and]at u;obtain⟨rfl,rfl⟩:=u;go_wp2;go_ret
  exact⟨rfl,U.o.left (apY _ _)⟩
 rw[if_neg t,if_neg t];obtain⟨p,z,E⟩:∃p z,h.ms f k=p::z:=by
  cases r:h.ms f k with
  |nil=>exact absurd r t
  |cons p z=>exact⟨p,z,rfl⟩
 rw[E]at s y C v;simp only[aqk]at s y C v;obtain⟨g,off,rfl⟩:=y (by omega);obtain⟨n,D⟩:∃n,n=z.length:=⟨_,rfl⟩;have dn:=aa (q.first w B E (by rw[v,D]) D);rw[<-D]at s C;have M:(i.vl f).ownBlock=some I:=by rw[x];rfl
 obtain⟨cur,N⟩:=bq (q.hl f w) M;have kK:=cG N (k*2+1);clear q t L y v M N D;have oR:¬((n:Int)+1=0):=by omega
 have bp:=World.new_ne c (K I (k*2+1)) s;go_enter func117,ntmps117;go_wp2_with fail
 refine F.o.mono ?_;rintro r W ⟨⟨X,Y,u,rfl⟩,rfl⟩;rw[x]at u;simp only[aqn,aqo,aqx,and_true,true_and]at u;obtain⟨rfl,rfl⟩:=u;go_wp2
 all_goals go_ret
 all_goals(
  obtain⟨m,l,_,_,_,_,_,_,_,P⟩:=dn.o;refine⟨rfl,?_⟩;unfold Ez;rw[E]
  first
   |exact P x _ (fun _=>rfl)
   |(obtain rfl:S=1:=(by omega);exact P x (some (K g off)) (fun r=>by omega)))
theorem akm(k:cL c b d e j a h i)(f g:Nat)(p:f<a)(r:g<a)(y:f≠g):
  O 121 #[Z b,A f,A g] c fun l z=>l=.returned (A (if h.sh f g=true then 10 else 0))/\jb b a d e j i.vl c z (if h.sh f g=true then h else yO h f g):=by
 have s:=aa (Ct k f g p r y);obtain⟨F,I,B,L,_,_,_,_,q,t,_⟩:=k.uT p r;have u:(i.vl f).ownBlock=some B:=by rw[q];rfl
 obtain⟨M,v⟩:=bq (k.hl f p) u;have N:=cG v (g*2);have w:=aa k;clear k u v;by_cases m:h.sh f g=true
 ·rw[if_pos m,if_pos m];rw[m]at t;clear m;go_enter func121,ntmps121;go_wp2_with fail
  refine s.o.mono ?_;rintro l C ⟨⟨D,E,n,rfl⟩,rfl⟩;rw[q]at n;simp only[aqn,aqo,aqx,and_true,true_and]at n;obtain⟨rfl,rfl⟩:=n;go_wp2;go_ret
  exact⟨rfl,w.o.left (apY _ _)⟩
 rw[if_neg m,if_neg m];have x:h.sh f g=false:=by cases l:h.sh f g with |false=>rfl|true=>exact absurd l m
 rw[x]at t;clear m x;go_enter func121,ntmps121;go_wp2_with fail
 refine s.o.mono ?_;rintro l C ⟨⟨D,E,n,rfl⟩,rfl⟩;rw[q]at n;simp only[aqn,aqo,aqx,and_true,true_and]at n;obtain⟨rfl,rfl⟩:=n;go_wp2;go_ret
 exact⟨rfl,w.o.akk p r q⟩
theorem h9.form{k}(h:h9 c l k m a n):∃b e,m=.slice b a e:=by
 rcases h.at' with⟨b,d,f⟩|⟨g,i,e,j,d,_⟩
 ·exact⟨b,0,by rw[d,f]⟩
 exact⟨_,_,d⟩
theorem Jq{w:World}(h:w.heap[a]?=some (.cells #[m,s,v] l (0,0))):∀j u,[m,s,v][j]?=some u->w.cell? (K a j)=some u:=by
 intro j u b;simp only[World.cell?,h]
 match j,b with
 |0,b=>simpa using b
 |1,b=>simpa using b
 |2,b=>simpa using b
theorem Nf{c d:Option Addr}(g:C.mB=.slice c a f)(h:C.cf=.slice d b k):∀u∈fC C,u.oneCell'=true:=by
 intro u e;simp only[fC,g,h,aqb,asi,or_false]at e;rcases e with rfl|rfl|rfl<;>rfl
theorem cL.aal{W v'}(o:cL u r j e d f h i)(s:b<f)(t:a<f)(M:J u c)(N:aO (fun l=>eU (i.fv b a)=some l) c W)(B:h9 W 251 3 v' ((i.im b a).length+1) ((i.im b a++[C]).flatMap fC))(de:∀l,eU v'=some l->eU (i.fv b a)=some l\/c.heap.size<=l)(z:qO c C)(P:∀l,C.mB.ownBlock=some l->d l\/(¬j l/\¬e l))(Q:∀l,C.cf.ownBlock=some l->d l\/(¬j l/\¬e l))(aF:i.vl b=.slice (some (H k)) f w):
  ∃R I',cL (W.setCell (K k (a*2+1)) v') r j R I' f (fU h b a (h.ms b a++[C.p])) (sr i b a v' (i.im b a++[C]))/\aO e u (W.setCell (K k (a*2+1)) v')/\(∀l,R l->e l\/u.heap.size<=l)/\(∀l,d l->I' l)/\∀l,I' l->d l\/C.mB.ownBlock=some l\/C.cf.ownBlock=some l:=by
 have S:aO (fun l=>eU (i.fv b a)=some l) u W:=(aO.cJ M).trans N;have U:∀l,l<c.heap.size->(d l\/(¬j l/\¬e l))->W.heap[l]?=c.heap[l]?:=fun l q x=>N.other l q fun n=>by
  rcases x with x|x
  ·exact o.ob l x (o.oG b a s t l n)
  exact x.2 (o.oG b a s t l n)
 have D:kH 0 W C.mB C.p.heard:=ca z.1 fun g y=>U g (ap1 z.1 g y).2 (P g y)
 have E:jE 0 W C.cf C.p.refs:=ca z.2 fun g y=>U g (ap1 z.2 g y).2 (Q g y)
 have cD:∀l,(d l\/C.mB.ownBlock=some l\/C.cf.ownBlock=some l)->d l\/(l<W.heap.size/\¬j l/\¬e l/\eU v'≠some l):=fun l q=>by
  rcases q with q|q|q
  ·exact .inl q
  ·rcases P l q with n|n
   ·exact .inl n
   refine .inr ⟨(ap1 D l q).2,n.1,n.2,fun F=> ?_⟩;obtain⟨cur,I⟩:=B.lt F;obtain⟨hv,L⟩:=bq D q;exact absurd (bK I L) (by decide)
  rcases Q l q with n|n
  ·exact .inl n
  refine .inr ⟨(ap1 E l q).2,n.1,n.2,fun F=> ?_⟩;obtain⟨cur,I⟩:=B.lt F;obtain⟨hv,L⟩:=bq E q;exact absurd (bK I L) (by decide)
 have :=o.aaj s t (W:=W) (v':=v') (cm':=i.im b a++[C]) (I':=fun l=>d l\/C.mB.ownBlock=some l\/C.cf.ownBlock=some l) S (by rw[ap4];exact B) (fun l q=>(de l q).imp id fun n=>ap0 M.size n) cD (fun l q=>.inl q) (fun m v=>by
  rcases ap7.1 v with v|v
  ·obtain⟨h1,X,Y⟩:=o.each b a s t m v;exact⟨h1.ft X Y fun l q=>S.other l (o.cx l q) fun n=>o.ob l q (o.oG b a s t l n),fun l q=>.inl (X l q),fun l q=>.inl (Y l q)⟩
  rw[ap9]at v;subst v;exact⟨⟨D,E⟩,fun l q=>.inr (.inl q),fun l q=>.inr (.inr q)⟩) aF
 rw[aqi,o.pm b a s t]at this;exact⟨_,_,this.1,this.2,fun l q=>q.imp id (·.1),fun l q=>.inl q,fun l q=>q⟩
theorem cL.Ng{W}(n:cL c k e j d f h i)(x:a<f)(y:b<f)(z:J c u)(B:aO (fun g=>eU (i.fv a b)=some g) u W)(D:h9 W 251 3 m ((i.im a b).length+1) ((i.im a b++[C]).flatMap fC))(E:∀g,eU m=some g->eU (i.fv a b)=some g\/u.heap.size<=g)(F:qO u C)(s:∀g,C.mB.ownBlock=some g->d g\/c.heap.size<=g)(t:∀g,C.cf.ownBlock=some g->d g\/c.heap.size<=g)(I:i.vl a=.slice (some (H r)) f w):
  jb k f e j d i.vl c (W.setCell (K r (b*2+1)) m) (fU h a b (h.ms a b++[C.p])):=by
 have v:∀g,c.heap.size<=g->¬e g/\¬j g:=fun g o=>⟨fun l=>absurd (n.ct.lt g l) (by omega),fun l=>absurd (n.lt g l) (by omega)⟩
 obtain⟨R,S,L,q,M,N,P⟩:=n.aal x y z B D E F (fun g o=>(s g o).imp id (v g)) (fun g o=>(t g o).imp id (v g)) I;refine⟨_,_,_,_,L,⟨q.os,q.tape,q.output,q.size,fun g o Q=>q.other g o fun l=>Q (.inr (.inl l)),?_⟩,fun g o=>⟨N g o,q.other g (n.cx g o) (n.ob g o)⟩,rfl⟩;rintro g (l|l|l)
 ·exact .inl (.inl l)
 ·rcases M g l with l|l
  ·exact .inl (.inr (.inl l))
  exact .inr l
 rcases P g l with l|l|l
 ·exact .inl (.inr (.inr l))
 ·rcases s g l with l|l
  ·exact .inl (.inr (.inr l))
  exact .inr l
 rcases t g l with l|l
 ·exact .inl (.inr (.inr l))
 exact .inr l
theorem akn{w S}(h:cL w b d e j a S i)(c f:Nat)(l:c<a)(r:f<a)(aM:c≠f):
  O 113 #[Z b,A c,A f] w fun g w'=>g=.returned (A (if S.sh c f=true then 10 else if 12<=(S.ms c f).length then 8 else 0))/\jb b a d e j i.vl w w' (Ag a S c f):=by
 have L:=aa (Ct h c f l r aM);obtain⟨tC,nz,y,fB,_,_,_,_,z,dx,s⟩:=h.uT l r;obtain⟨D,E,t,nH,kV⟩:=h.queue l r;have kM:=aa t;rw[t]at s;have M:=aa h;have bT:(i.vl c).ownBlock=some y:=by rw[z];rfl
 obtain⟨cur,F⟩:=bq (h.hl c l) bT;have aP:=aa F;have N:=aa (show eU (.slice D (S.ms c f).length E)≠some y from fun g=>by
  rw[<-t]at g;obtain⟨hv,P⟩:=(h.ak c f l r).lt g;exact absurd (bK F P) (by decide))
 have c9:=aN F;unfold Ag;clear nH kV bT F;by_cases p:S.sh c f=true
 ·rw[if_pos p,if_pos (.inl p)];rw[p]at dx;clear p h t;go_enter func113,ntmps113;go_wp2_with fail
  refine L.o.mono ?_;rintro g Q ⟨⟨px,py,m,rfl⟩,rfl⟩;rw[z]at m;simp only[aqn,aqo,aqx,and_true,true_and]at m;obtain⟨rfl,rfl⟩:=m;go_wp2;go_ret
  exact⟨rfl,M.o.left (apY _ _)⟩
 rw[if_neg p];have R:S.sh c f=false:=by cases g:S.sh c f with |false=>rfl|true=>exact absurd g p
 rw[R]at dx;obtain⟨n,v⟩:∃n,n=(S.ms c f).length:=⟨_,rfl⟩;rw[<-v]at s;by_cases x:12<=(S.ms c f).length
 ·rw[if_pos x,if_pos (.inr x)];have xt:(12:Int)<=(n:Int):=by omega
  clear p R h t v x;go_enter func113,ntmps113;go_wp2_with fail
  refine L.o.mono ?_;rintro g Q ⟨⟨px,py,m,rfl⟩,rfl⟩;rw[z]at m;simp only[aqn,aqo,aqx,and_true,true_and]at m;obtain⟨rfl,rfl⟩:=m;go_wp2;go_ret
  exact⟨rfl,M.o.left (apY _ _)⟩
 rw[if_neg x,if_neg (fun g=>g.elim p x)];have xt:¬((12:Int)<=(n:Int)):=by omega
 have hN:=h.ct.room.hN;have bc:=h.ct.room.bc;obtain⟨gO,qW,db,eY,O0,Jr,_,Fh,_,cells⟩:=h.ct.room.row (by omega);rw[Jr]at bc;have dJ:=cells c l;have qh:(0:Int)<=(c:Int):=aqc _;have kC:(c:Int)<(a:Int):=by omega
 obtain⟨gH,nm,A4,_,_⟩:=h.ct.room.C3 l;have Jn:=aa (fun W (ab:J w W)=>aag (w:=W) (c7 (h.ct.room.nums l) ab) (by simp;omega));rw[A4]at dJ Jn;have hlen:(i.im c f).length=n:=by rw[v,<-h.pm c f l r,ap2]
 have o5:=aa hlen;have Cu:=aa (show n<12 by omega);have U:=aa (show i.fv c f=.slice D n E by rw[v];exact t);rw[<-v]at N;have kS:=aa (show J w w.drew from(apY _ w).drew);have xu:=aa (show h9 w 251 3 (.slice D n E) (i.im c f).length ((i.im c f).flatMap fC) by rw[<-U.o];exact h.ak c f l r);clear p R h t v x hlen Jr O0 A4 cells kM;go_enter func113,ntmps113;go_wp2_with fail
 refine L.o.mono ?_;rintro g Q ⟨⟨px,py,m,rfl⟩,rfl⟩;rw[z]at m;simp only[aqn,aqo,aqx,and_true,true_and]at m;obtain⟨rfl,rfl⟩:=m;go_wp2_with fail
 go_region_law (first
  |(go_simp;go_at_call 154;refine(Jn.o _ kS.o).mono ?_;rintro g q ⟨u,rfl,hu,bb⟩;have B:=Hq.o (mx bb);clear bb;replace s:=ae B s;have mR:=B.size;have zK:y<q.heap.size:=(by omega);have W5:=World.new_ne q (K y (f*2+1)) s;have ek:=aa (bj aP.o B);have bB:=aa B;have X:=aa hu;clear B hu;obtain⟨Y,kF,o0,hu4,hu5,hu6⟩:=bm X.o;rw[ap2,aq6]at o0;subst o0;clear hu4 hu5 hu6;have bL:=aa (show J q (q.alloc (.cells #[.bool true,.slice Y a kF,.slice none 0 0] 251)) from(apY _ q).alloc (apX _) _);have aan:=aa (show J Q (q.alloc (.cells #[.bool true,.slice Y a kF,.slice none 0 0] 251)) from bB.o.trans (bL.o.mono bB.o.size));dsimp only)
  |(refine Ss fC 3 56 247 251 (.agg #[.bool false,.slice none 0 0,.slice none 0 0]) (by kernel_rfl) underlying247 rfl (by omega) (fun _=>rfl) (by rfl) (.tmp 36) (.tmp 47) (by rfl) (.slice D n E) (i.im c f) (by rfl) (xu.o.ae fun k C=>aan.o.block k (by obtain⟨hv,P⟩:=xu.o.lt C;exact aN P)) q.heap.size 1 ⟨⟨true,(List.range a).map (S.has c),[]⟩,.slice Y a kF,.slice none 0 0⟩ (by rfl) (Jq (bI q _)) (Nf rfl rfl) (by rw[o5.o];have :=Cu.o;omega) (by rw[o5.o];have :=Cu.o;unfold maxLen;omega) ?_;intro v4 w4 ha I fR;have eA:=aa ha;have j8:=aa I;have iY:=aa fR;have fO:=aa ((I.other y (by simp;omega) N.o).trans ((hK _ _ zK).trans ek.o));replace s:=I.cell N.o (ae bL.o s);clear ha I fR;obtain⟨a4,j9,rfl⟩:=eA.o.form;have vb:=cG fO.o (f*2+1)))
 all_goals go_wp2
 all_goals go_ret
 all_goals(
  refine⟨rfl,?_⟩;have :=M.o.Ng l r aan.o (by rw[U.o];exact j8.o) eA.o (by rw[U.o];exact iY.o) ⟨c7 (gT X.o (apZ _)) bL.o,aqe _ _ _ _⟩ (fun k C=>.inr (ap1 X.o k C).1) (fun k C=>by cases C) z;exact this)
theorem ako{S}(h:cL c b d e j a S i)(r s:Nat)(v:r<a)(w:s<a)(aM:r≠s):
  O 118 #[Z b,A r,A s] c fun t w'=>t=.returned (A (if S.ms r s=[] then 12 else if S.sh r s=true then 10 else if 12<=(S.ms r s).length then 8 else 0))/\jb b a d e j i.vl c w' (Ai S r s):=by
 have N:=aa (Ct h r s v w aM);obtain⟨tC,nz,P,fB,_,_,_,_,C,dx,x⟩:=h.uT v w;obtain⟨pe,kj,D,Q,R⟩:=h.queue v w;rw[D]at x;have E:=aa h;have bT:(i.vl r).ownBlock=some P:=by rw[C];rfl
 obtain⟨cur,cr⟩:=bq (h.hl r v) bT;have aP:=aa cr;have kf:=aa (show eU (i.fv r s)≠some P from fun t=>by
  obtain⟨hv,cg⟩:=(h.ak r s v w).lt t;exact absurd (bK cr cg) (by decide))
 have c9:=aN cr;unfold Ai
 match F:S.ms r s with
 |[]=>
  rw[if_pos rfl];rw[F]at x;simp only[aqC]at x;go_enter func118,ntmps118;go_wp2_with fail
  refine N.o.mono ?_;rintro t U ⟨⟨px,py,u,rfl⟩,rfl⟩;rw[C]at u;simp only[aqn,aqo,aqx,and_true,true_and]at u;obtain⟨rfl,rfl⟩:=u;go_wp2;go_ret
  exact⟨rfl,E.o.left (apY _ _)⟩
 |p::W=>
  rw[if_neg (by simp)];simp only;rw[F]at x R Q D;simp only[aqk]at x R Q D;obtain⟨g,off,rfl⟩:=R (by omega);obtain⟨n,y⟩:∃n,n=W.length:=⟨_,rfl⟩;obtain⟨m,l,cZ,ah,hl,X,f0,f1,f2,eQ⟩:=h.first v w F (by rw[D,y]) y
  have lZ:=aa (show i.fv r s=.slice (some (K g off)) (n+1) kj by rw[D,y]);rw[<-y]at x Q;have o5:=aa (show(i.im r s).length=n+1 by rw[cZ,aqk,<-ap2 (f:=fm.p),hl,y]);have xu:=aa (show h9 c 251 3 (.slice (some (K g off)) (n+1) kj) (i.im r s).length ((i.im r s).flatMap fC) by rw[<-lZ.o];exact h.ak r s v w);have bJ:=aa X;have wR:=aa (show m.p=p/\S.ms r s=p::W from⟨ah,F⟩);have Y:=aa (h.each r s v w m (by rw[cZ];simp));obtain⟨xv,qP,I,_,_,_⟩:=bm X.1;obtain⟨lM,lN,L,_,_,_⟩:=bm X.2;rw[I]at f1;rw[L]at f2;obtain⟨cH,mM⟩:∃cH,cH=m.p.heard.length:=⟨_,rfl⟩;obtain⟨b8,jJ⟩:∃b8,b8=m.p.refs.length:=⟨_,rfl⟩;rw[<-mM]at f1 I;rw[<-jJ]at f2 L;have Cv:=aa (And.intro I L);have oR:¬((n:Int)+1=0):=by omega
  have aao:(p::W).length=n+1:=by rw[aqk,y]
  rw[aao,show W.length=n from y.symm];obtain⟨qQ,uW⟩:∃qQ,qQ=p.q:=⟨_,rfl⟩;rw[<-uW]at f0;have Gz:=aa (show fC m=[.bool qQ,.slice xv cH qP,.slice lM b8 lN] by unfold fC;rw[I,L,uW,ah]);by_cases z:S.sh r s=true
  ·rw[if_pos z,if_pos (.inl z)];rw[z]at dx;go_enter func118,ntmps118;go_wp2_with fail
   refine N.o.mono ?_;rintro t U ⟨⟨px,py,u,rfl⟩,rfl⟩;rw[C]at u;simp only[aqn,aqo,aqx,and_true,true_and]at u;obtain⟨rfl,rfl⟩:=u;go_wp2;go_ret
   exact⟨rfl,E.o.left (apY _ _)⟩
  rw[if_neg z];have j6:S.sh r s=false:=by cases t:S.sh r s with |false=>rfl|true=>exact absurd t z
  rw[j6]at dx;by_cases hz:12<=n+1
  ·rw[if_pos hz,if_pos (.inr (by omega))];have xt:(12:Int)<=(n:Int)+1:=by omega
   go_enter func118,ntmps118;go_wp2_with fail
   refine N.o.mono ?_;rintro t U ⟨⟨px,py,u,rfl⟩,rfl⟩;rw[C]at u;simp only[aqn,aqo,aqx,and_true,true_and]at u;obtain⟨rfl,rfl⟩:=u;go_wp2;go_ret
   exact⟨rfl,E.o.left (apY _ _)⟩
  rw[if_neg hz,if_neg (fun t=>t.elim (fun t=>z t) (fun t=>hz (by omega)))];have xt:¬((12:Int)<=(n:Int)+1):=by omega
  have Cu:=aa (show n<12 by omega);have kS:=aa (show J c c.drew from(apY _ c).drew);have bL:=aa (show J c (c.drew.alloc (.cells #[.bool qQ,.slice xv cH qP,.slice lM b8 lN] 251)) from(apY _ c).drew.alloc (apX _) _);have zK:P<c.drew.heap.size:=c9;clear h R Q D F z cZ ah hl X y I L mM jJ aao uW j6 hz;go_enter func118,ntmps118;go_wp2_with fail
  refine N.o.mono ?_;rintro t U ⟨⟨px,py,u,rfl⟩,rfl⟩;rw[C]at u;simp only[aqn,aqo,aqx,and_true,true_and]at u;obtain⟨rfl,rfl⟩:=u;go_wp2_with fail
  go_region_law (first
   |(refine Ss fC 3 56 247 251 (.agg #[.bool false,.slice none 0 0,.slice none 0 0]) (by rfl) underlying247 rfl (by omega) (fun _=>rfl) (by rfl) (.tmp 43) (.tmp 50) (by rfl) (.slice (some (K g off)) (n+1) kj) (i.im r s) (by rfl) (xu.o.ae fun k B=>bL.o.block k (by obtain⟨hv,cg⟩:=xu.o.lt B;exact aN cg)) U.heap.size 1 m (by rfl) (by rw[Gz.o];simp) (Nf Cv.o.1 Cv.o.2) (by rw[o5.o];omega) (by rw[o5.o];have :=Cu.o;unfold maxLen;omega) ?_;intro v4 w4 ha M fR;rw[<-lZ.o]at M fR;have eA:=aa ha;have j8:=aa M;have iY:=aa fR;have fO:=aa ((M.other P (by simp;omega) kf.o).trans ((hK _ _ zK).trans aP.o));replace x:=M.cell kf.o (ae bL.o x);clear ha M fR;obtain⟨a4,j9,rfl⟩:=eA.o.form;have vb:=cG fO.o (s*2+1)))
  all_goals go_wp2
  all_goals go_ret
  all_goals(
   refine⟨rfl,?_⟩;have :=E.o.Ng v w bL.o j8.o eA.o iY.o (bJ.o.ft Y.o.2.1 Y.o.2.2 fun k B=>bL.o.block k (E.o.cx k B)) (fun k B=>.inl (Y.o.2.1 k B)) (fun k B=>.inl (Y.o.2.2 k B)) C;rw[wR.o.1,wR.o.2]at this;exact this)
theorem Sx{w:World}{l:List fm}(h:∀m∈l,qO w m):∀u∈l.flatMap fC,u.oneCell'=true:=by
 intro u c;obtain⟨m,d,c⟩:=aqq.1 c;obtain⟨a,g,e,_⟩:=bm (h m d).1;obtain⟨b,i,f,_⟩:=bm (h m d).2;exact Nf e f u c
def yQ (B:Nat) (w:World) (v:Value) (l:List fm):Prop:=w.ownsRow B 251 3 v l.length (l.flatMap fC)
theorem Js{w}{rest:List Oper}(e:L.guard=none)(s x:Operand)(f:L.op=.call {callee:=.builtin .append,args:= #[s,x],argTypes:= #[247,247]})(B:Nat)(v:Value)(l a:List fm)(g:D.eval s=v)(i:yQ B w v l)(d:Value)(j:D.eval x=d)(k:rF w fC d a)(m:∀u∈a.flatMap fC,u.oneCell'=true)(p:l.length+a.length<10000000)(n:B<=w.heap.size)(h:∀c b,yQ B b c (l++a)->w.grownBy b v.ownBlock->wpList prog E F rest (D.put L.dst c) b):wpList prog E F (L::rest) D w:=
 Ha fC 3 56 247 251 (.agg #[.bool false,.slice none 0 0,.slice none 0 0]) (by kernel_rfl) underlying247 rfl (by omega) (fun _=>rfl)
  e s x f B v l a g i d j k m (by omega) (by unfold maxLen;omega) n (fun c b q o=>h c b (by unfold yQ;simp_all) o)
theorem h9.src{w}{l:List fm}(h:h9 w 251 3 (.slice (some (K a b)) f k) f (l.flatMap fC))(d:f=l.length):rF w fC (.slice (some (K a b)) f k) l:=by
 subst d;by_cases e:0<l.length
 ·obtain⟨i,m,g,_,_,n⟩:=h.cell e;obtain⟨rfl,rfl⟩:=g;refine .inr ⟨_,_,rfl,fun j u c=> ?_⟩;have :((K a b):Addr).add j=(K a (b+j)):=by unfold Addr.add;simp
  simp_all
 have :l=[]:=arb (by omega);subst this;exact .inr ⟨_,_,rfl,fun j u c=>by simp at c⟩
theorem Sy{W:World}{m:fm}{c:Value}(d:fC m=[s,v,c])(h:W.heap[a]?=some (.cells #[s,v,c] l (0,0))):rF W fC (.slice (some (H a)) 1 1) [m]:=
 .inr ⟨_,_,rfl,fun j u b=>by
  have :((H a):Addr).add j=(K a j):=by unfold Addr.add;simp_all
  rw[this];rw[aqm,ash,aqB,d]at b;exact Jq h j u b⟩
theorem aap{w:World}(h:w.ownsRow a l f m k n)(c:eU m=some b):a<=b:=by
 rcases h.2 with⟨rfl,_⟩|⟨e,g,i,rfl,d,_⟩
 ·contradiction
 obtain rfl:=Nc c;exact d
theorem akp{w}(s:cL w b e j d a h i)(c r:Nat)(D:c<a)(P:r<a)(aM:c≠r)(hz:(h.ms c r).length<=12):
  O 119 #[Z b,A c,A r] w fun t w'=>t=.returned (A (if h.ms c r=[] then 12 else if h.sh c r=true then 10 else 0))/\jb b a e j d i.vl w w' (Ah h c r):=by
 have bR:=aa (Ct s c r D P aM);obtain⟨tC,nz,gl,fB,_,_,_,_,U,dx,C⟩:=s.uT D P;obtain⟨pe,kj,E,nH,X⟩:=s.queue D P;rw[E]at C;have az:=aa s;have bT:(i.vl c).ownBlock=some gl:=by rw[U];rfl
 obtain⟨cur,cr⟩:=bq (s.hl c D) bT;have aP:=aa cr;have c9:=aN cr;clear bT cr;unfold Ah
 match Q:h.ms c r with
 |[]=>
  rw[if_pos rfl];rw[Q]at C;simp only[aqC]at C;clear s X nH E Q;go_enter func119,ntmps119;go_wp2_with fail
  refine bR.o.mono ?_;rintro t z ⟨⟨px,py,y,rfl⟩,rfl⟩;rw[U]at y;simp only[aqn,aqo,aqx,and_true,true_and]at y;obtain⟨rfl,rfl⟩:=y;go_wp2;go_ret
  exact⟨rfl,az.o.left (by go_grown)⟩
 |p::bo=>
  rw[if_neg (by simp)];simp only;rw[Q]at C X nH E hz;simp only[aqk]at C X nH E hz;obtain⟨g,R,rfl⟩:=X (by omega);obtain⟨n,S⟩:∃n,n=bo.length:=⟨_,rfl⟩;obtain⟨m,l,cZ,ah,hl,nb,f0,f1,f2,eQ⟩:=s.first D P Q (by rw[E,S]) S
  clear eQ;have lZ:=aa (show i.fv c r=.slice (some (K g R)) (n+1) kj by rw[E,S]);rw[<-S]at C nH hz;have Y:l.length=n:=by rw[<-ap2 (f:=fm.p),hl,S]
  have sL:=aa Y;have da:=aa hl;have xu:=aa (show h9 w 251 3 (.slice (some (K g R)) (n+1) kj) (n+1) ((m::l).flatMap fC) by
   have :=s.ak c r D P;rw[cZ,lZ.o,aqk,Y]at this;exact this)
  have bJ:=aa nb;have wR:=aa (show m.p=p/\h.ms c r=p::bo from⟨ah,Q⟩);have uF:=aa (show ∀B∈m::l,_ from fun B F=>s.each c r D P B (by rw[cZ];omega));obtain⟨xv,qP,pA,_,_,_⟩:=bm nb.1;obtain⟨lM,lN,mD,_,_,_⟩:=bm nb.2;rw[pA]at f1;rw[mD]at f2;obtain⟨cH,mM⟩:∃cH,cH=m.p.heard.length:=⟨_,rfl⟩;obtain⟨b8,jJ⟩:∃b8,b8=m.p.refs.length:=⟨_,rfl⟩;rw[<-mM]at f1 pA;rw[<-jJ]at f2 mD;have Cv:=aa (And.intro pA mD);have oR:¬((n:Int)+1=0):=by omega
  obtain⟨qQ,uW⟩:∃qQ,qQ=p.q:=⟨_,rfl⟩;rw[<-uW]at f0;have Gz:=aa (show fC m=[.bool qQ,.slice xv cH qP,.slice lM b8 lN] by unfold fC;rw[pA,mD,uW,ah]);by_cases I:h.sh c r=true
  ·rw[if_pos I,if_pos I];rw[I]at dx;clear s X nH E Q I cZ ah hl nb S pA mD mM jJ uW f0 f1 f2 Y hz;go_enter func119,ntmps119;go_wp2_with fail
   refine bR.o.mono ?_;rintro t z ⟨⟨px,py,y,rfl⟩,rfl⟩;rw[U]at y;simp only[aqn,aqo,aqx,and_true,true_and]at y;obtain⟨rfl,rfl⟩:=y;go_wp2;go_ret
   exact⟨rfl,az.o.left (by go_grown)⟩
  rw[if_neg I,if_neg I];have j6:h.sh c r=false:=by cases t:h.sh c r with |false=>rfl|true=>exact absurd t I
  rw[j6]at dx;have ow:=aa (show J w (w.alloc (.cells #[.bool qQ,.slice xv cH qP,.slice lM b8 lN] 251)) from(apY _ w).alloc (apX _) _);have aoE:w.heap.size≠gl:=by omega
  have ao6:=aa C;by_cases qw:kj=1
  ·subst qw;obtain rfl:n=0:=by omega
   have tY:=arb Y;subst tY;have D4:=aa (fun W=>show rF W fC (.slice (some (K g R)) 0 0) [] from .inr ⟨_,_,rfl,fun v u hu=>by simp at hu⟩);clear s X E Q I cZ ah hl nb S pA mD mM jJ uW j6 Y;go_enter func119,ntmps119;go_wp2_with fail
   refine bR.o.mono ?_;rintro t z ⟨⟨px,py,y,rfl⟩,rfl⟩;rw[U]at y;simp only[aqn,aqo,aqx,and_true,true_and]at y;obtain⟨rfl,rfl⟩:=y;go_wp2_with (first
    |(at_builtin;(refine Js rfl (.tmp 40) (.tmp 45) rfl z.heap.size (.slice none 0 0) [] [] rfl ?h1 (.slice (some (K g R)) 0 0) rfl ?h2 ?hw ?al ?aL ?_;(case h1=>exact aqe _ _ _ _);(case h2=>exact D4.o _);(case hw=>simp);(case al=>simp);(case aL=>simp);intro v2 w2 iv eD;have L:=aa (ow.o.grown eD ow.o.size (fun k t=>by cases t));have jZ:=aa iv;have M:=(Jq ((eD.block z.heap.size (by simp) (by simp[Value.ownBlock])).trans (bI z _)));have jx:=M 0 _ rfl;have q1:=M 1 _ rfl;have j1:=M 2 _ rfl;replace C:=ae L.o C;have hz2:=L.o.size;have cB:=aa (bj aP.o L.o);clear iv eD M;obtain⟨a2,bc,iS,lX,pr,xi⟩:=bm jZ.o;subst iS;clear lX pr xi))
    |(at_builtin;(refine Js rfl (.tmp 48) (.tmp 50) rfl z.heap.size (.slice a2 (([]:List fm)++[]).length bc) (([]:List fm)++[]) [m] (by rfl) ?h1 (.slice (some (V w2 0)) 1 1) rfl ?h2 ?hw ?al ?aL ?_;(case h1=>exact jZ.o.alloc _);(case h2=>exact Sy Gz.o (bI w2 _));(case hw=>exact Sx (w:=z) (fun B F=>(uF.o B (by omega)).1));(case al=>simp);(case aL=>simp;omega);intro v3 w3 Cq di;have N:=aa ((L.o.alloc hz2 _).grown di (by simp;omega) (fun k x=>(ap1 jZ.o k x).1));have js:=aa Cq;replace C:=ae N.o ao6.o;have ek:=aa (bj aP.o N.o);have Hk:=cG ek.o (r*2+1);clear Cq di;obtain⟨a3,bZ,iD,lX,pr,xi⟩:=bm js.o;subst iD;clear lX pr xi)))
   all_goals go_ret
   all_goals(
    refine⟨rfl,?_⟩;have :=az.o.stored D P (W:=w3) (cm':=_++[m]) (I':=d) (aO.cJ N.o) (h9.own (by omega) js.o) (fun k x=>.inr (aap js.o x)) (fun k x=>.inl x) (fun k x=>x) (fun B F=>by
     have jg:B∈m::[]:=by assumption
     obtain⟨aj,aw,cS⟩:=uF.o B jg;exact⟨aj.ft aw cS fun k x=>N.o.block k (az.o.cx k x),aw,cS⟩) U
    rw[aqi,aqK,da.o,List.map_singleton,wR.o.1,ap4]at this;exact this)
  have D4:=aa (fun W (ab:J w W)=>show rF W fC (.slice (some (K g (R+3))) n (kj-1)) l from h9.src ((xu.o.tail (some (K g (R+3))) (fun _=>rfl)).ae fun k x=>ab.block k (by obtain⟨hv,cg⟩:=(xu.o.tail (some (K g (R+3))) (fun _=>rfl)).lt x;exact aN cg)) Y.symm);clear s X E Q I cZ ah hl nb S pA mD mM jJ uW j6 Y;go_enter func119,ntmps119;go_wp2_with fail
  refine bR.o.mono ?_;rintro t z ⟨⟨px,py,y,rfl⟩,rfl⟩;rw[U]at y;simp only[aqn,aqo,aqx,and_true,true_and]at y;obtain⟨rfl,rfl⟩:=y;go_wp2_with (first
   |(at_builtin;(refine Js rfl (.tmp 40) (.tmp 45) rfl z.heap.size (.slice none 0 0) [] l rfl ?h1 (.slice (some (K g (R+3))) n (kj-1)) rfl ?h2 ?hw ?al ?aL ?_;(case h1=>exact aqe _ _ _ _);(case h2=>exact D4.o _ ow.o);(case hw=>exact Sx (w:=z) (fun B F=>(uF.o B (aqh _ F)).1));(case al=>rw[sL.o];simp;omega);(case aL=>simp);intro v2 w2 iv eD;have L:=aa (ow.o.grown eD ow.o.size (fun k t=>by cases t));have jZ:=aa iv;have M:=(Jq ((eD.block z.heap.size (by simp) (by simp[Value.ownBlock])).trans (bI z _)));have jx:=M 0 _ rfl;have q1:=M 1 _ rfl;have j1:=M 2 _ rfl;replace C:=ae L.o C;have hz2:=L.o.size;have cB:=aa (bj aP.o L.o);clear iv eD M;obtain⟨a2,bc,iS,lX,pr,xi⟩:=bm jZ.o;subst iS;clear lX pr xi))
   |(at_builtin;(refine Js rfl (.tmp 48) (.tmp 50) rfl z.heap.size (.slice a2 ([]++l).length bc) ([]++l) [m] (by rfl) ?h1 (.slice (some (V w2 0)) 1 1) rfl ?h2 ?hw ?al ?aL ?_;(case h1=>exact jZ.o.alloc _);(case h2=>exact Sy Gz.o (bI w2 _));(case hw=>exact Sx (w:=z) (fun B F=>(uF.o B (by rw[ap9]at F;subst F;simp)).1));(case al=>first |(simp;done)|(have :=sL.o;simp;omega));(case aL=>simp;omega);intro v3 w3 Cq di;have N:=aa ((L.o.alloc hz2 _).grown di (by simp;omega) (fun k x=>(ap1 jZ.o k x).1));have js:=aa Cq;replace C:=ae N.o ao6.o;have ek:=aa (bj aP.o N.o);have Hk:=cG ek.o (r*2+1);clear Cq di;obtain⟨a3,bZ,iD,lX,pr,xi⟩:=bm js.o;subst iD;clear lX pr xi)))
  all_goals go_ret
  all_goals(
   refine⟨rfl,?_⟩;have :=az.o.stored D P (W:=w3) (cm':=_++[m]) (I':=d) (aO.cJ N.o) (h9.own (by omega) js.o) (fun k x=>.inr (aap js.o x)) (fun k x=>.inl x) (fun k x=>x) (fun B F=>by
    have jg:B∈m::l:=by simpa[or_comm]using F
    obtain⟨aj,aw,cS⟩:=uF.o B jg;exact⟨aj.ft aw cS fun k x=>N.o.block k (az.o.cx k x),aw,cS⟩) U
   rw[aqi,aqK,da.o,List.map_singleton,wR.o.1,ap4]at this;exact this)
theorem akq(a b c d:Int)(W:World):(binOp .eql 258 (.agg #[A a,A b]) (.agg #[A c,A d])).run prog W=.ok (.bool (eF a b c d)) W:=by
 go_simp;unfold eF;by_cases e:a=c<;>by_cases f:b=d<;>simp[e,f]
theorem jE.cells{w:World}{g n cap:Nat}{l:List (Nat×Nat)}(h:w.ownsRow a 258 2 (.slice (some (H g)) n cap) n (l.flatMap uQ))(b:n=l.length)(i:Nat)(c:i<l.length):w.cell? (K g (i*2))=some (A (l[i].1:Int))/\w.cell? (K g (i*2+1))=some (A (l[i].2:Int)):=by
 have d:=ir (f:=uQ) (k:=2) (fun _=>rfl) h b i c 0 (by omega);have e:=ir (f:=uQ) (k:=2) (fun _=>rfl) h b i c 1 (by omega);simp[uQ]at d e
 simp_all
theorem aaq(p q r:Option Addr)(s t u x y z:Nat)(v:Value)(l:List (Nat×Nat))(b c:Nat)(w:World)(h:jE 0 w v l):
  O 195 #[.agg #[.slice p s x,v,.slice q t y,.slice r u z],.agg #[A b,A c]] w fun e D=>
   e=.returned (.bool (decide ((b,c)∈l)))/\J w D:=by
 obtain⟨a,E,rfl,R,F,I⟩:=bm h;unfold maxLen at F;have L:=I;have M:=h;go_enter func195,ntmps195;go_wp2;go_loopw [5] (fun i wr=>∃k:Nat,k<=l.length/\i=A k/\Hq (∀j (d:j<l.length),j<k->l[j]≠(b,c))/\∃n,wr=((w.alloc (.cells #[.slice p s x,.slice a l.length E,.slice q t y,.slice r u z] 225)).alloc (.cells #[A b,A c] 258)).drewN n) (fun i _=>l.length-(intOf i).toNat)
 case atStart=>exact⟨0,apZ _,rfl,fun _ _ h=>absurd h (aq7 _),0,rfl⟩
 case round=>
  obtain⟨k,S,rfl,B,n,rfl⟩:=hrel;by_cases C:k<l.length
  ·obtain⟨g,rfl⟩:=L k C;obtain⟨N,U⟩:=jE.cells M rfl k C;have heq:=akq;have W:g<w.heap.size:=aqd w _ N;have X:g≠w.heap.size:=by omega
   have Y:g≠w.heap.size+1:=by omega
   have jR:(0:Int)<=(k:Int):=by simp
   have dZ:(k:Int)<(l.length:Int):=by omega
   go_wp2;go_region
   cases f:eF (l[k].1:Int) (l[k].2:Int) b c
   ·go_wp2;go_roundw
    case rel=>
     refine⟨k+1,by omega,by go_num,fun j d og e=> ?_,_,rfl⟩;by_cases P:j=k
     ·subst P;rw[yX,e]at f;exact f rfl
     exact B.o j d (by omega) e
    case measure=>simp[intOf];omega
   go_wp2;go_ret
   refine⟨mf ?_,below_drewN (((apY _ _).alloc (apX _) _).alloc (by simp) _) _⟩;have m:=CL.1 f;simp only[arL,Int.ofNat_inj]at m
   symm
   rw[decide_eq_true_eq];have :l[k]=(b,c):=Prod.ext m.1 m.2;rw[<-this];simp
  go_wp2;go_ret
  refine⟨mf ?_,below_drewN (((apY _ _).alloc (apX _) _).alloc (by simp) _) _⟩
  symm
  rw[decide_eq_false_iff_not];intro Q;obtain⟨j,d,e⟩:=aqv.1 Q;exact B.o j d (by omega) e
end Go.Proofs.YtnkpogjiiohapaaGreatDoor
