/- Our own text. -/
import Derived.Test.YtnkpogjiiohapaaGreatDoorA24
set_option linter.unusedSimpArgs false
set_option linter.unusedVariables false
set_option maxRecDepth 1000000
set_option maxHeartbeats 1600000
namespace Go.Proofs.YtnkpogjiiohapaaGreatDoor
open Go.RowKit Tryz
variable {a b f k l q:Nat}{c u:World}{d e h:Nat->Prop}{j:bP}{m w y:Value}{n:TypeId}{r:List Value}{s:List bT}{v:List (Nat×Nat)}{z:Nat->List bY}{B:Nat->Nat->Nat}{C:Nat->Nat->Value}{D:Nat->Value}{E:gM}{F:Act}{I:Array Oper}{L:Exit->Act->World->Prop}{M:Oper}
def gr:Value->Option Nat
 |.slice (some a) _ b=>if b=0 then none else some a.block
 |_=>none
theorem RI(a:Addr)(n b:Nat):gr (.slice (some a) n b)=if b=0 then none else some a.block:=rfl
theorem aeg(b:Addr)(n:Nat)(h:0<a):gr (.slice (some b) n a)=some b.block:=by rw[RI,a7 (by omega)]
theorem Xd{c:Addr}{g:Nat}(h:gr (.slice (some c) a b)=some g):c.block=g:=by
 rw[RI]at h
 simp_all
structure ji (w:World) (e:TypeId) (k:Nat) (v:Value) (n:Nat) (xs:List Value):Prop where
 len:xs.length=n*k
 at':(∃a,v=.slice a 0 0/\n=0)\/∃g off cap cur,v=.slice (some (K g off)) n cap/\0<cap/\n<=cap/\cap<=maxLen/\w.heap[g]?=some (.cells cur e)/\off+cap*k<=cur.size/\∀j u,xs[j]?=some u->cur[off+j]?=some u
theorem ji.nil(w:World)(e:TypeId)(k:Nat):ji w e k (.slice none 0 0) 0 []:=⟨by simp,.inl ⟨none,rfl,rfl⟩⟩
theorem ji.ak{w e k v n}{w':World}(h:ji w e k v n r)(c:∀g,gr v=some g->w'.heap[g]?=w.heap[g]?):ji w' e k v n r:=by refine⟨h.len,h.at'.imp id λ⟨g,off,cap,d,a,b,f,i,j,l⟩=>⟨g,off,cap,d,a,b,f,i,?_,l⟩⟩;rw[c g (by rw[a];exact aeg _ _ b)];exact j
theorem ji.lt{w e k v n}(h:ji w e k v n r){g:Nat}(b:gr v=some g):∃c,w.heap[g]?=some (.cells c e):=by
 rcases h.at' with⟨a,rfl,_⟩|⟨d,f,cap,c,rfl,i,_,_,j,_⟩
 .cases a<;>simp[gr]at b
 obtain rfl:=Xd b
 simp_all
theorem ji.own(q:0<a)(h:c.ownsRow f n a m b r):ji c n a m b r:=by
 refine⟨h.1,?_⟩;rcases h.2 with⟨rfl,s⟩|⟨g,e,i,rfl,_,k,l,o,t,p⟩
 .simp_all
 by_cases v:e=0
 .simp_all
 refine .inr ⟨g,0,e,i,rfl,by omega,l,o,k,by omega,λj u d=> ?_⟩;have :=p;rw[<-this,wq]at d;split at d
 .rw[sY,<-S1];exact d
 cases d
theorem ji.cell{w}{a:Option Addr}(h:ji w n k (.slice a b f) b r)(o:0<b):∃g c,a=some (K g c)/\b<=f/\f<=maxLen/\∀j u,r[j]?=some u->w.cell? (K g (c+j))=some u:=by
 rcases h.at' with⟨p,d,q⟩|⟨g,c,s,t,d,v,e,i,l,x,y⟩
 .omega
 injection d with d _ m;subst d m;exact⟨g,c,rfl,e,i,λj u z=>by simp only[World.cell?,l];simp_all⟩
theorem ji.tail{w}(h:ji w n a (.slice (some (K l f)) (k+1) b) (k+1) r)(d:Option Addr)(g:0<b-1->d=some (K l (f+a))):ji w n a (.slice d k (b-1)) k (r.drop a):=by
 refine⟨by rw[ly,h.len,uW];omega,?_⟩;rcases h.at' with⟨_,_,t⟩|⟨v,x,y,i,c,z,B,C,m,D,o⟩
 .omega
 injection c with c _ p;injection c with c;injection c with c q;subst c p q;by_cases s:b-1=0
 .obtain rfl:k=0:=by omega
  exact .inl ⟨d,by rw[s],rfl⟩
 refine .inr ⟨l,f+a,b-1,i,by rw[g (by omega)],by omega,by omega,by omega,m,?_,λj u e=> ?_⟩
 .have n:b*a=(b-1)*a+a:=by rw[<-Oy];congr 1;omega
  omega
 rw[YY]at e;have :=o (a+j) u e;rw[show f+a+j=f+(a+j) by omega];exact this
theorem apq {P:Program} (w:World) (t x e:TypeId) (i:TypeInfo) (z:Value) (size bytes:Nat) (F:P.underlying t=some (.slice e)) (I:P.info? e=some i) (R:i.zero=some z)
  (L:i.size=size) (S:i.bytes=bytes) (U:z.cells.size=size) (M:0<size) (v:Value) (n:Nat) (o:List Value) (aP:ji w e size v n o)
  (a:Addr) (c:Nat) (b:List Value) (hl:b.length=size) (N:∀j u,b[j]?=some u->w.cell? (a.add j)=some u) (h1:∀u∈b,u.oneCell'=true)
  (W:n+1<=maxLen) (X:(n+1)*bytes<=140737488355328):
  ∃f d,(Builtin.append_ #[t,t] x #[v,.slice (some a) 1 c]).run P w=.ok f d/\ji d e size f (n+1) (o++b)/\aR (λk=>gr v=some k) w d/\∀k,gr f=some k->gr v=some k\/w.heap.size<=k:=by
 have Y:b.length=1*size:=by omega
 have hlen:=aP.len;have grown:∀{f d:_},d.ownsRow w.heap.size e size f (n+1) (o++b)->w.grownBy d none->ji d e size f (n+1) (o++b)/\aR (λk=>gr v=some k) w d/\∀k,gr f=some k->gr v=some k\/w.heap.size<=k:=λ{f d} p l=>by
  refine⟨ji.own M p,⟨l.os,l.tape,l.output,l.size,λk q _=>l.block k q (by simp)⟩,λk q=>.inr ?_⟩;rcases p.2 with⟨av,_⟩|⟨g,r,y,av,ah,_⟩
  .omega
  rw[av]at q;obtain rfl:=Xd q;exact ah
 rcases aP.at' with⟨a0,rfl,rfl⟩|⟨g,h,r,y,rfl,h2,ax,a8,Q,gi,hy⟩
 .have az:o=[]:=by simp_all
  subst az;cases a0 with
  |none=>obtain⟨f,d,s,p,l,_⟩:=SE (P:=P) w w.heap.size t x e i z size bytes F I R L S U M (.slice none 0 0) 0 [] (hg _ _ _ _) a 1 c b Y N h1 W X (bW _);obtain⟨B,C,D⟩:=grown p l;exact⟨f,d,s,B,C,D⟩
  |some a0=>obtain⟨f,d,s,p,l⟩:=atR (P:=P) w t x e i z size bytes F I R L S U M a0 0 0 [] (by simp) (λj u m=>by simp at m) a 1 c b Y N (by omega) W X;obtain⟨B,C,D⟩:=grown p l;exact⟨f,d,s,B,C,D⟩
 by_cases zi:n+1<=r
 .subst L;have td:h+n*i.size+b.length<=y.size:=by have :(n+1)*i.size<=r*i.size:=wn _ zi;rw[uW]at this;omega
  have s:=run_append_room_cells (P:=P) w t x e i F I g h n r a 1 c b (by omega) N h1 zi (λj aB=>by
   have :h+n*i.size+j<y.size:=by omega
   simp[World.cell?,Q,this]) (λj aB=>cV Q _)
  have E:=JD (g:=g) b (h+n*i.size) w;have ci:gr (.slice (some (K g h)) n r)=some g:=aeg _ _ h2;refine⟨_,_,s,⟨by rw[dh,hlen,hl,uW,Y6],.inr ⟨g,h,r,tv y (h+n*i.size) b,rfl,h2,zi,a8,JC b _ w y Q,by rw[JB];exact gi,λj u m=> ?_⟩⟩,⟨E.os,E.tape,E.output,E.size,λk q bI=>E.other k q λe=>bI (by rw[ci,e])⟩,λk q=>.inl ?_⟩
  .by_cases aB:j<o.length
   .rw[KU aB]at m;rw[Mo,a7 (by omega)];exact hy j u m
   rw[KV (by omega)]at m;have IX:=(Au.1 m).1;rw[Mo,bn (by omega),show h+j-(h+n*i.size)=j-o.length by omega];exact m
  assumption
 obtain⟨f,d,s,p,l⟩:=atR (P:=P) w t x e i z size bytes F I R L S U M (K g h) n r o (by omega) (λj u m=>by
  have az:(((K g h):Addr).add j)=(K g (h+j)):=by unfold Addr.add;simp
  rw[az];simp only[World.cell?,Q];exact hy j u m) a 1 c b Y N (by omega) W X
 obtain⟨B,C,D⟩:=grown p l;exact⟨f,d,s,B,C,D⟩
theorem apr(l:List Nat):∀u∈l.flatMap pU,u.oneCell'=true:=by intro u b;obtain⟨n,_,a⟩:=lg.1 b;simp[pU]at a;subst a;rfl
theorem aps {α:Type} {d:α->List Value} {e:Option Addr} {l:List α} (h:c.ownsRow k n f (.slice e a b) a (l.flatMap d)) (g:∀x,(d x).length=f) (i:a=l.length) (j:e=none->b=0):tW c d (.slice e a b) l:=by
 have :=Ld h g i a (bW _) b (λ_=>j)
 simp_all
theorem apt{rest:List Oper}(f:M.guard=none)(s x:Operand)(g:M.op=.call {callee:=.builtin .append,args:= #[s,x],argTypes:= #[24,24]})(B:Nat)(v:Value)(l a:List Nat)(i:F.eval s=v)(j:lL B c v l)(e:Value)(k:F.eval x=e)(m:tW c pU e a)(p:l.length+a.length<10000000)(n:B<=c.heap.size)(h:∀d b,lL B b d (l++a)->c.grownBy b v.ownBlock->wpList prog I L rest (F.put M.dst d) b):wpList prog I L (M::rest) F c:=
 Lc pU 1 8 24 3 (A 0) (by kernel_rfl) underlying24 rfl (by omega) (λ_=>rfl)
  f s x g B v l a i j e k m (apr a) (by omega) (by unfold maxLen;omega) n (λd b q o=>h d b (by unfold lL;simp_all) o)
theorem aei {w:World} {l:List Nat} (h:lL 0 w m l) (o:l.length<1000000):
  O 154 #[m] w λe b=>∃u,e=ad u/\lL w.heap.size b u l/\J w b:=by
 obtain⟨a,c,rfl,p,q,r⟩:=bz h;have d:a=none->c=0:=λe=>by
  subst e;rcases h.2 with⟨f,_⟩|⟨g,s,t,f,_⟩
  .simp_all
  simp_all
 go_enter func154,ntmps154;go_wp2_with (at_builtin;go_must (refine apt rfl (.tmp 4) (.tmp 5) rfl w.heap.size (.slice none 0 0) [] l rfl (hg _ _ _ _) (.slice a l.length c) rfl (by exact aps h (λ_=>rfl) rfl d) (by simp;omega) (by simp) ?_;intro i v j n;have x:=ag j))
 go_ret
 exact⟨i,rfl,by assumption,(ca _ _).grown n (bW _) (λk e=>by cases e)⟩
theorem fS.vj(h:fS c f b m w y D z C B)(d:a<b):lL 0 c (C a 0) ((List.range b).map (B a)):=by
 have :=h.hH a d;unfold lL;rw[c2,ww];have e:((List.range b).map (B a)).flatMap pU=(List.range b).map λi=>A (B a i):=by rw[agf];exact List.map_eq_flatMap.symm
 simp_all
theorem apu (h:fS c b a m w y D z C B) (d:Int) (j:¬(0<=d/\d<a)):
  O 110 #[Z b,A d] c λe g=>e=ad (.tuple #[.slice none 0 0,A 2])/\g=c:=by
 have f:=ag (vd h d);have i:decide (0<=d/\d<(a:Int))=false:=by simp_all
 rw[i]at f;go_enter func110,ntmps110;go_wp2_with fail
 refine f.o.mono ?_;rintro e k ⟨rfl,rfl⟩;go_wp2;go_ret2
 simp
theorem apv (h:fS c b a m w y D z C B) (d:Nat) (f:d<a):
  O 110 #[Z b,A d] c λe g=>∃u,e=ad (.tuple #[u,A 0])/\lL c.heap.size g u ((List.range a).map (B d))/\J c g:=by
 have i:=ag (vd h d);have l:decide (0<=(d:Int)/\(d:Int)<(a:Int))=true:=by simp;omega
 rw[l]at i;have t:=h.hN;have j:=ag (aei (h.vj f) (by simp;omega));have v:=h.bq;obtain⟨x,E,F,I,rfl,rfl,_,L,_,cells⟩:=h.row (by omega);have n:=cells d f;have M:(0:Int)<=(d:Int):=by simp
 have N:(d:Int)<(a:Int):=by omega
 obtain⟨P,Q,p,_,_⟩:=h.Gx f;rw[p]at n j;go_enter func110,ntmps110;go_wp2_with fail
 refine i.o.mono ?_;rintro e q ⟨rfl,rfl⟩;go_wp2_with fail
 refine j.o.mono ?_;rintro e q ⟨u,rfl,r,s⟩;have k:=aN r s;go_wp2;go_ret2
 exact⟨u,rfl,k.1,k.2⟩
structure ef where
 ba:Value
 aW:Value
 bc:Value
 bi:Nat->Value
 cops:Nat->List bY
 cp:Nat->Nat->Value
 yO:Nat->Nat->Value
 vl:Nat->Value
 hv:Nat->Nat->Value
 jF:Nat->Nat->List gM
variable {i:ef}
structure c3 (w:World) (r:Nat) (F L I:Nat->Prop) (N:Nat) (S:bP) (x:ef):Prop where
 cm:yc w r F N S.P S.ai x.ba x.aW x.bc x.bi x.cops x.cp
 en:∀c,c<N->ld 0 w (x.cp c 1) (S.en c)
 df:∀c,c<N->lL 0 w (x.cp c 2) ((List.range N).map (S.df c))
 DI:∀c,c<N->w.ownsRow 0 24 1 (x.cp c 3) N ((List.range N).map (x.yO c))
 qu:∀c d,c<N->d<N->lL 0 w (x.yO c d) ((List.range N).map (S.bC c d))
 cE:w.ownsRow 0 226 1 x.bc N ((List.range N).map x.vl)
 hl:∀i,i<N->w.ownsRow 0 249 2 (x.vl i) N ((List.range N).flatMap λj=>[.bool (S.sh i j),x.hv i j])
 aw:∀i j,i<N->j<N->ji w 251 3 (x.hv i j) (x.jF i j).length ((x.jF i j).flatMap gR)
 pm:∀i j,i<N->j<N->(x.jF i j).map gM.p=S.ms i j
 l6:∀i j,i<N->j<N->∀m∈x.jF i j,tL w m/\(∀k,m.oH.ownBlock=some k->I k)/\∀k,m.cl.ownBlock=some k->I k
 lw:∀c,c<N->∀k,(x.cp c 1).ownBlock=some k->L k
 xB:∀c,c<N->∀k,(x.cp c 2).ownBlock=some k->L k
 BZ:∀c,c<N->∀k,(x.cp c 3).ownBlock=some k->L k
 nk:∀c d,c<N->d<N->∀k,(x.yO c d).ownBlock=some k->L k
 B0:∀k,x.bc.ownBlock=some k->L k
 hL:∀i,i<N->∀k,(x.vl i).ownBlock=some k->L k
 pW:∀i j,i<N->j<N->∀k,gr (x.hv i j)=some k->L k
 B1:∀c cB,c<N->cB<N->c≠cB->∀k,(x.cp c 1).ownBlock=some k->(x.cp cB 1).ownBlock≠some k
 DJ:∀c d cB cz,c<N->d<N->cB<N->cz<N->(c≠cB\/d≠cz)->∀k,(x.yO c d).ownBlock=some k->(x.yO cB cz).ownBlock≠some k
 zO:∀c cB,c<N->cB<N->c≠cB->∀k,(x.cp c 2).ownBlock=some k->(x.cp cB 2).ownBlock≠some k
 DK:∀c d cB,c<N->d<N->cB<N->∀k,(x.yO c d).ownBlock=some k->(x.cp cB 2).ownBlock≠some k
 dQ:∀i j,i<N->j<N->i≠j->∀k,(x.vl i).ownBlock=some k->(x.vl j).ownBlock≠some k
 B2:∀i j mH DL,i<N->j<N->mH<N->DL<N->(i≠mH\/j≠DL)->∀k,gr (x.hv i j)=some k->gr (x.hv mH DL)≠some k
 xC:∀k,L k->¬F k
 lt:∀k,L k->k<w.heap.size
 cI:∀k,I k->k<w.heap.size
 yP:∀k,I k->¬F k
 oa:∀k,I k->¬L k
theorem tL.fW{w}{w':World}(h:tL w E)(c:∀k,E.oH.ownBlock=some k->d k)(e:∀k,E.cl.ownBlock=some k->d k)(b:∀k,d k->w'.heap[k]?=w.heap[k]?):tL w' E:=⟨cu h.1 λg a=>b g (c g a),cu h.2 λg a=>b g (e g a)⟩
theorem c3.hA(f:c3 u a d e h b j i)(B:u.heap.size<=c.heap.size)(hF:∀k,d k->c.heap[k]?=u.heap[k]?)(w:∀k,e k->c.heap[k]?=u.heap[k]?)(y:∀k,h k->c.heap[k]?=u.heap[k]?):c3 c a d e h b j i:=by
 have F:yc c a d b j.P j.ai i.ba i.aW i.bc i.bi i.cops i.cp:=by have l:=f.cm;refine⟨⟨?_,l.bN.hN,cu l.bN.jt (λg s=>hF g (l.ud g s)),λn y=>⟨cu (l.bN.fa n y).1 (λg s=>hF g (l.wW n y g s)),λo D=>cu ((l.bN.fa n y).2 o D) (λg s=>hF g (l.fold n y o D g s))⟩,cu l.bN.ho (λg s=>hF g (l.nn g s)),λp t=>cu (l.bN.hH p t) (λg s=>hF g (l.vz p t g s)),l.bN.eb,l.bN.cw⟩,l.ke,l.ar,l.cc,l.ud,l.nn,l.wW,l.vz,l.fold,λk I=>c0 (l.lt k I) B⟩;rw[hF a l.cc];exact l.bN.aP
 exact⟨F,λp t=>cu (f.en p t) λg s=>w g (f.lw p t g s),λp t=>cu (f.df p t) λg s=>w g (f.xB p t g s),λp t=>cu (f.DI p t) λg s=>w g (f.BZ p t g s),λp r t E=>cu (f.qu p r t E) λg s=>w g (f.nk p r t E g s),cu f.cE λg s=>w g (f.B0 g s),λn v=>cu (f.hl n v) λg s=>w g (f.hL n v g s),λn q v x=>(f.aw n q v x).ak λg s=>w g (f.pW n q v x g s),f.pm,λn q v x m z=>⟨(f.l6 n q v x m z).1.fW (f.l6 n q v x m z).2.1 (f.l6 n q v x m z).2.2 y,(f.l6 n q v x m z).2⟩,f.lw,f.xB,f.BZ,f.nk,f.B0,f.hL,f.pW,f.B1,f.DJ,f.zO,f.DK,f.dQ,f.B2,f.xC,λk C=>c0 (f.lt k C) B,λk C=>c0 (f.cI k C) B,f.yP,f.oa⟩
theorem c3.ak{w S x}{w':World}(c:c3 w a d e h b S x)(g:J w w'):c3 w' a d e h b S x:=c.hA g.size (λk f=>g.block k (c.cm.lt k f)) (λk f=>g.block k (c.lt k f)) (λk f=>g.block k (c.cI k f))
theorem c3.xE{N}(g:c3 c l d e h N j i)(r:b<N)(w:a<N):∃p q n o,i.bc=aa p N q/\N<=q/\c.cell? (K p b)=some (aa n N o)/\N<=o/\i.vl b=aa n N o/\c.cell? (K n (a*2))=some (.bool (j.sh b a))/\c.cell? (K n (a*2+1))=some (i.hv b a):=by
 obtain⟨m,q,t,x,_,y⟩:=bz g.cE;obtain⟨p,rfl⟩:=y b r;obtain⟨C,o,u,z,_,B⟩:=bz (g.hl b r);obtain⟨n,rfl⟩:=B a w;have v:=g.cE;rw[t]at v;have s:=g.hl b r;rw[u]at s;have D:=v.cellAt b (by omega);have E:=jl (f:=λa=>[Value.bool (j.sh b a),i.hv b a]) (k:=2) (λ_=>rfl) s (by simp) a (by simp_all) 0 (by omega);have F:=jl (f:=λa=>[Value.bool (j.sh b a),i.hv b a]) (k:=2) (λ_=>rfl) s (by simp) a (by simp_all) 1 (by omega);refine⟨p,q,n,o,t,x,by simp_all,z,u,?_,?_⟩
 .simp_all
 simp_all
theorem FO {N:Nat} (g:c3 c a d e h N j i) (f b:Nat) (q:f<N) (r:b<N) (y:f≠b):
  O 155 #[Z a,A f,A b] c λk s=>(∃l m,i.vl f=aa l N m/\k=ad (.tuple #[.pointer (some (K l (b*2))),A 0]))/\s=c:=by
 have n:=ag (vd g.cm.bN f);have p:=ag (vd g.cm.bN b);have t:c.cell? (K a 3)=some i.bc:=by simp[World.cell?,g.cm.bN.aP]
 have z:=g.cm.bN.hN;obtain⟨B,C,l,m,u,D,E,F,I,_,_⟩:=g.xE q r;rw[u]at t;have v:decide (0<=(f:Int)/\(f:Int)<(N:Int))=true:=by simp;omega
 have w:decide (0<=(b:Int)/\(b:Int)<(N:Int))=true:=by simp;omega
 rw[v]at n;rw[w]at p;have L:¬((f:Int)=(b:Int)):=by omega
 have M:(0:Int)<=(f:Int):=by simp
 have P:(f:Int)<(N:Int):=by omega
 have Q:(0:Int)<=(b:Int):=by simp
 have R:(b:Int)<(N:Int):=by omega
 go_enter func155,ntmps155;go_wp2_with fail
 refine n.o.mono ?_;rintro k x ⟨rfl,rfl⟩;go_wp2_with fail
 refine p.o.mono ?_;rintro k x ⟨rfl,rfl⟩;go_wp2;go_ret2
 simp_all
theorem apw (l:c3 c b d e h a j i) (f k:Nat) (n:f<a) (o:k<a) (t:f≠k):
  O 116 #[Z b,A f,A k] c λm u=>m=ad (.tuple #[A (j.ms f k).length,A 0])/\u=c:=by
 obtain⟨B,C,D,E,_,_,_,_,v,_,w⟩:=l.xE n o;have x:(i.jF f k).length=(j.ms f k).length:=by rw[<-l.pm f k n o,c2]
 obtain⟨p,r,y⟩:∃p r,i.hv f k=.slice p (j.ms f k).length r:=by
  rw[<-x];rcases(l.aw f k n o).at' with⟨q,z,F⟩|⟨g,I,L,M,z,_⟩
  .simp_all
  simp_all
 rw[y]at w;go_enter func116,ntmps116;go_wp2_with fail
 refine(FO l f k n o t).mono ?_;rintro m N ⟨⟨P,Q,s,rfl⟩,rfl⟩;rw[v]at s;obtain⟨rfl,rfl⟩:=s;go_wp2;go_ret2
 simp
theorem Ki(h:c.ownsRow k n l (aa a b f) b r)(o:Nat)(u:Value):(c.setCell (K a o) u).ownsRow k n l (aa a b f) b (r.set o u):=by
 refine⟨by rw[F7];exact h.1,?_⟩;rcases h.2 with⟨d,_⟩|⟨s,t,e,d,g,i,j,m,p,q⟩
 .simp at d
 obtain⟨rfl,rfl⟩:=d;refine .inr ⟨a,f,e.setIfInBounds o u,rfl,g,setRow i,j,m,by rw[af6];exact p,?_⟩;rw[atB,<-q,List.take_set]
theorem RK {α β:Type} {f g:α->List β}:∀{l:List α},(∀x∈l,f x=g x)->l.flatMap f=l.flatMap g
 |[],_=>rfl
 |y::l,h=>by rw[jI,jI,h y (by simp),RK λx a=>h x (by simp[a])]
theorem aej {a q:Nat->Value} {d:Nat} {v:Value}:∀(l:List Nat) (i:Nat),l.Nodup->l[i]?=some d->(l.flatMap λj=>[a j,q j]).set (i*2+1) v=l.flatMap λj=>[a j,upd q d v j]
 |[],_,_,h=>by rfl
 |y::l,0,b,h=>by
  simp only[Aw,po]at h;subst h;have c:y∉l:=by simp_all
  have e:(l.flatMap λj=>[a j,q j])=l.flatMap λj=>[a j,upd q y v j]:=RK λj f=>by rw[ch];rintro rfl;exact c f
  simp only[jI,p5,sZ,KY,agh,SB,sY,bL];rw[e]
 |y::l,i+1,b,h=>by
  have c:y≠d:=by rintro rfl;exact(oN.1 b).1 (IE h)
  rw[show(i+1)*2+1=(i*2+1)+1+1 by omega];simp only[jI,p5,sZ,KY];rw[aej (a:=a) (q:=q) (v:=v) l i (oN.1 b).2 h,ch _ _ c]
theorem aek {a q:Nat->Value} {d:Nat} {v:Value}:∀(l:List Nat) (i:Nat),l.Nodup->l[i]?=some d->(l.flatMap λj=>[a j,q j]).set (i*2) v=l.flatMap λj=>[upd a d v j,q j]
 |[],_,_,h=>by rfl
 |y::l,0,b,h=>by
  simp only[Aw,po]at h;subst h;have c:y∉l:=by simp_all
  have e:(l.flatMap λj=>[a j,q j])=l.flatMap λj=>[upd a y v j,q j]:=RK λj f=>by rw[ch];rintro rfl;exact c f
  simp only[jI,p5,sZ,agh,SB,bL];rw[e]
 |y::l,i+1,b,h=>by
  have c:y≠d:=by rintro rfl;exact(oN.1 b).1 (IE h)
  rw[show(i+1)*2=(i*2)+1+1 by omega];simp only[jI,p5,sZ,KY];rw[aek (a:=a) (q:=q) (v:=v) l i (oN.1 b).2 h,ch _ _ c]
def yQ (S:bP) (c d:Nat) (b:Bool) (l:List la):bP:={S with ms:=upd S.ms c (upd (S.ms c) d l),sh:=upd S.sh c (upd (S.sh c) d b)}
def wa (x:ef) (c d:Nat) (v:Value) (l:List gM):ef:={x with hv:=upd x.hv c (upd (x.hv c) d v),jF:=upd x.jF c (upd (x.jF c) d l)}
theorem yR {α:Type} (f:Nat->α) (k:Nat):upd f k (f k)=f:=by
 funext j;by_cases e:j=k
 .subst e;rw[bL]
 rw[ch _ _ e]
theorem apx(S:bP)(c d:Nat)(l:List la):yQ S c d (S.sh c d) l=ht S c d l:=by unfold yQ ht;rw[yR,yR]
theorem apy(S:bP)(c d:Nat):yQ S c d true (S.ms c d)=BX S c d:=by unfold yQ BX;rw[yR,yR]
theorem c3.HO {F:Nat->Prop} (h:c3 u q F d e l j i) (L:f<l) (W:k<l) {b:Bool} {v':Value} {cm':List gM} {I':Nat->Prop} (aI:aR (λr=>(i.vl f).ownBlock=some r\/gr (i.hv f k)=some r) u c)
  (fl:c.ownsRow 0 249 2 (i.vl f) l ((List.range l).flatMap λt=>[.bool (upd (j.sh f) k b t),upd (i.hv f) k v' t]))
  (jB:ji c 251 3 v' cm'.length (cm'.flatMap gR)) (dJ:∀r,gr v'=some r->gr (i.hv f k)=some r\/u.heap.size<=r)
  (c6:∀r,I' r->e r\/(r<c.heap.size/\¬F r/\¬d r/\gr v'≠some r)) (qw:∀r,e r->I' r)
  (Nn:∀m∈cm',tL c m/\(∀r,m.oH.ownBlock=some r->I' r)/\∀r,m.cl.ownBlock=some r->I' r):
  c3 c q F (λr=>d r\/(u.heap.size<=r/\gr v'=some r)) I' l (yQ j f k b (cm'.map gM.p)) (wa i f k v' cm'):=by
 have yS:∀s,s<l->∀r,(i.vl s).ownBlock=some r->∃N,u.heap[r]?=some (.cells N 249):=λs z r x=>b0 (h.hl s z) x
 have rp:∀s t,s<l->t<l->∀r,gr (i.hv s t)=some r->∃N,u.heap[r]?=some (.cells N 251):=λs t z D r x=>(h.aw s t z D).lt x
 have stay:=λr x y M=>aI.other r x λw=>w.elim y M
 have other:∀{w:TypeId} {r:Nat} {N:Array Value},w≠249->w≠251->u.heap[r]?=some (.cells N w)->c.heap[r]?=u.heap[r]?:=λ{w r N} y M C=>stay r (aU C)
  (λx=>by obtain⟨hE,U⟩:=yS f L r x;exact y (cQ C U))
  (λx=>by obtain⟨hE,U⟩:=rp f k L W r x;exact M (cQ C U))
 have X:=λr x=>stay r (h.cm.lt r x) (λw=>h.xC r (h.hL f L r w) x) (λw=>h.xC r (h.pW f k L W r w) x)
 have hIs:=λr x=>stay r (h.cI r x) (λw=>h.oa r x (h.hL f L r w)) (λw=>h.oa r x (h.pW f k L W r w))
 have xD:yc c q F l j.P j.ai i.ba i.aW i.bc i.bi i.cops i.cp:=by have a:=h.cm;refine⟨⟨?_,a.bN.hN,cu a.bN.jt (λg C=>X g (a.ud g C)),λs z=>⟨cu (a.bN.fa s z).1 (λg C=>X g (a.wW s z g C)),λo Y=>cu ((a.bN.fa s z).2 o Y) (λg C=>X g (a.fold s z o Y g C))⟩,cu a.bN.ho (λg C=>X g (a.nn g C)),λf L=>cu (a.bN.hH f L) (λg C=>X g (a.vz f L g C)),a.bN.eb,a.bN.cw⟩,a.ke,a.ar,a.cc,a.ud,a.nn,a.wW,a.vz,a.fold,λr Q=>c0 (a.lt r Q) aI.size⟩;rw[X q a.cc];exact a.bN.aP
 have lM:∀{w:TypeId} {r n:Nat} {v:Value} {xs:List Value},w≠249->w≠251->u.ownsRow 0 w r v n xs->c.ownsRow 0 w r v n xs:=λ{w r n v xs} y M Y=>cu Y λg C=>by obtain⟨N,R⟩:=b0 Y C;exact other y M R
 have Xf:∀s t,(wa i f k v' cm').hv s t=if s=f/\t=k then v' else i.hv s t:=λs t=>by
  unfold wa;simp only;by_cases B:s=f
  .subst B;rw[bL];by_cases E:t=k
   .subst E;rw[bL,bn ⟨rfl,rfl⟩]
   rw[ch _ _ E,a7 (λw=>E w.2)]
  rw[ch _ _ B,a7 (λw=>B w.1)]
 have dM:∀s t,(wa i f k v' cm').jF s t=if s=f/\t=k then cm' else i.jF s t:=λs t=>by
  unfold wa;simp only;by_cases B:s=f
  .subst B;rw[bL];by_cases E:t=k
   .subst E;rw[bL,bn ⟨rfl,rfl⟩]
   rw[ch _ _ E,a7 (λw=>E w.2)]
  rw[ch _ _ B,a7 (λw=>B w.1)]
 have fQ:∀s t,(yQ j f k b (cm'.map gM.p)).ms s t=if s=f/\t=k then cm'.map gM.p else j.ms s t:=λs t=>by
  unfold yQ;simp only;by_cases B:s=f
  .subst B;rw[bL];by_cases E:t=k
   .subst E;rw[bL,bn ⟨rfl,rfl⟩]
   rw[ch _ _ E,a7 (λw=>E w.2)]
  rw[ch _ _ B,a7 (λw=>B w.1)]
 have aL:∀r,gr v'=some r->r<c.heap.size:=λr x=>by obtain⟨N,R⟩:=jB.lt x;exact aU R
 refine⟨xD,λa I=>lM (by decide) (by decide) (h.en a I),λa I=>lM (by decide) (by decide) (h.df a I),λa I=>lM (by decide) (by decide) (h.DI a I),λa b I ah=>lM (by decide) (by decide) (h.qu a b I ah),lM (by decide) (by decide) h.cE,?_,?_,?_,?_,
  λa I r x=>.inl (h.lw a I r x),λa I r x=>.inl (h.xB a I r x),λa I r x=>.inl (h.BZ a I r x),λa b I ah r x=>.inl (h.nk a b I ah r x),λr x=>.inl (h.B0 r x),λs z r x=>.inl (h.hL s z r x),?_,h.B1,h.DJ,h.zO,h.DK,h.dQ,?_,?_,?_,?_,?_,?_⟩
 .intro s z;by_cases B:s=f
  .subst B;have w:(λt=>[Value.bool ((yQ j s k b (cm'.map gM.p)).sh s t),(wa i s k v' cm').hv s t])=λt=>[.bool (upd (j.sh s) k b t),upd (i.hv s) k v' t]:=by funext t;unfold yQ wa;simp only[bL]
   show c.ownsRow 0 _ 2 (i.vl s) l ((List.range l).flatMap λt=>[Value.bool ((yQ j s k b (cm'.map gM.p)).sh s t),(wa i s k v' cm').hv s t]);rw[w];exact fl
  have w:(λt=>[Value.bool ((yQ j f k b (cm'.map gM.p)).sh s t),(wa i f k v' cm').hv s t])=λt=>[.bool (j.sh s t),i.hv s t]:=by funext t;unfold yQ wa;simp only[ch _ _ B]
  rw[w];refine cu (h.hl s z) λg C=> ?_
  obtain⟨N,R⟩:=yS s z g C;refine stay g (aU R) (λx=>h.dQ s f z L B g C x) λx=> ?_
  obtain⟨hE,U⟩:=rp f k L W g x;exact absurd (cQ R U) (by decide)
 .intro s t z D;rw[Xf,dM];by_cases B:s=f/\t=k
  .rw[bn B,bn B];exact jB
  rw[a7 B,a7 B];refine(h.aw s t z D).ak λg C=> ?_
  obtain⟨N,R⟩:=rp s t z D g C;refine stay g (aU R) (λx=> ?_) λx=>h.B2 s t f k z D L W (atS.2 λw=>B ⟨Ze.1 w.1,Ze.1 w.2⟩) g C x
  obtain⟨hE,U⟩:=yS f L g x;exact absurd (cQ R U) (by decide)
 .intro s t z D;rw[dM,fQ];split
  .rfl
  exact h.pm s t z D
 .intro s t z D m hm;rw[dM]at hm;split at hm
  .exact Nn m hm
  obtain⟨y,M,ax⟩:=h.l6 s t z D m hm;exact⟨y.fW M ax hIs,λr x=>qw r (M r x),λr x=>qw r (ax r x)⟩
 .intro s t z D r x;rw[Xf]at x;split at x
  .rcases dJ r x with y|y
   .exact .inl (h.pW f k L W r y)
   exact .inr ⟨y,x⟩
  exact .inl (h.pW s t z D r x)
 .intro s t mH DL z D ff pJ S r x Q;rw[Xf]at x Q;split at x
  .rename_i B
   split at Q
   .rename_i E
    obtain⟨rfl,rfl⟩:=B;rcases S with S|S
    .exact S E.1.symm
    exact S E.2.symm
   obtain⟨rfl,rfl⟩:=B;rcases dJ r x with y|y
   .exact h.B2 s t mH DL z D ff pJ S r y Q
   exact absurd (h.lt r (h.pW mH DL ff pJ r Q)) (by omega)
  split at Q
  .rename_i E
   obtain⟨rfl,rfl⟩:=E;rcases dJ r Q with y|y
   .exact h.B2 s t mH DL z D ff pJ S r x y
   exact absurd (h.lt r (h.pW s t z D r x)) (by omega)
  exact h.B2 s t mH DL z D ff pJ S r x Q
 .rintro r (x|⟨x,_⟩)
  .exact h.xC r x
  exact λw=>absurd (h.cm.lt r w) (by omega)
 .rintro r (x|⟨_,x⟩)
  .exact c0 (h.lt r x) aI.size
  exact aL r x
 .intro r x;rcases c6 r x with y|y
  .exact c0 (h.cI r y) aI.size
  exact y.1
 .intro r x;rcases c6 r x with y|y
  .exact h.yP r y
  exact y.2.1
 rintro r x (M|⟨M,ax⟩)
 .rcases c6 r x with y|y
  .exact h.oa r y M
  exact y.2.2.1 M
 rcases c6 r x with y|y
 .exact absurd (h.cI r y) (by omega)
 exact y.2.2.2 ax
theorem Xg {α:Type} (f:α->List Value) (size bytes:Nat) (t e:TypeId) (z:Value) (n:(prog.info? e).map (λi=>(i.zero,i.size,i.bytes))=some (some z,size,bytes))
  (o:prog.underlying t=some (.slice e)) (p:z.cells.size=size) (q:0<size) (r:∀x,(f x).length=size)
  {a:Act->World->Prop} {E:Prop}
  (w:M.guard=none) (s x:Operand) (B:M.op=.call {callee:=.builtin .append,args:= #[s,x],argTypes:= #[t,t]}) (v:Value) (l:List α) (C:F.eval s=v)
  (D:ji c e size v l.length (l.flatMap f)) (g b:Nat) (y:α) (N:F.eval x=aa g 1 b)
  (Q:∀j u,(f y)[j]?=some u->c.cell? (K g j)=some u) (R:∀u∈f y,u.oneCell'=true) (S:(l.length+1)*bytes<=140737488355328) (sd:l.length<maxLen)
  (h:∀d m,ji m e size d (l.length+1) ((l++[y]).flatMap f)->aR (λk=>gr v=some k) c m->(∀k,gr d=some k->gr v=some k\/c.heap.size<=k)->a (F.put M.dst d) m):
  if Region.wanted M (yielded I F.tmps)=true then Oper.wp prog M F c a L else E:=by
 have U:Region.wanted M (yielded I F.tmps)=true:=by simp[Region.wanted,w]
 rw[bn U];obtain⟨i,W,X,Y,eg⟩:=qH n;obtain⟨d,m,aP,h2,ax,a8⟩:=apq (P:=prog) c t M.type e i z size bytes o W X Y eg p q v l.length (l.flatMap f) D (H g) b (f y) (by rw[r])
  (λj u hu=>by
   have :((H g):Addr).add j=(K g j):=by unfold Addr.add;split <;>simp_all
   rw[this];exact Q j u hu) R (by omega) S
 unfold Oper.wp execOp;simp only[B,resolve,invoke,builtin,mL,xL,oK,KW,ip,uV,C,N,aP];exact h d m (by simpa using h2) ax a8
def sU (F L I:Nat->Prop) (k:Nat):Prop:=F k\/L k\/I k
def j7 (r N:Nat) (F L I:Nat->Prop) (e:Nat->Value) (w a:World) (f:bP):Prop:=∃b c I' d,c3 a r b c I' N f d/\dp (sU F L I) (sU b c I') w a/\(∀k,I k->I' k/\a.heap[k]?=w.heap[k]?)/\d.vl=e
theorem c3.left{w N S}{w':World}(b:c3 w a d e h N S i)(c:J w w'):j7 a N d e h i.vl w w' S:=⟨d,e,h,i,b.ak c,dp.cL c,λk f=>⟨f,c.block k (b.cI k f)⟩,rfl⟩
theorem c3.Ia{l}(n:c3 c f d e h b j i)(U:Own b j.P j.ai a s)(y:h5 c u f b i.ba i.aW i.bc i.bi i.cops i.cp j.ai a s l D z B):j7 f b d e h i.vl c u (kS j a (l.map bY.p)):=by
 have Y:B=λv r=>if v=a/\r=a then(j.P a++l.map bY.p).length else j.ai v r:=by
  rw[y.aj];funext v r;by_cases q:v=a/\r=a
  .simp[q,U.all]
  simp only[q,fM]
 have t:=n.cm;have xD:yc u f (λk=>d k\/(c.heap.size<=k/\k<u.heap.size)) b (kS j a (l.map bY.p)).P (kS j a (l.map bY.p)).ai i.ba i.aW i.bc D z i.cp:=by
  refine⟨by unfold kS;rw[<-Y];exact y.wr.bN,y.wr.ke,?_,.inl t.cc,λk x=>.inl (t.ud k x),λk x=>.inl (t.nn k x),?_,λv S k x=>.inl (t.vz v S k x),?_,?_⟩
  .intro r C;unfold kS;simp only;rw[y.ar];by_cases q:r=a
   .subst q;rw[bL,bL,ga,t.ar r C]
   rw[ch _ _ q,ch _ _ q,t.ar r C]
  .intro r C k x;by_cases q:r=a
   .subst q;rcases y.new with X|X
    .exact .inl (t.wW r C k (by simp_all))
    exact .inr ⟨X k x,(cX (y.wr.bN.fa r C).1 k x).2⟩
   rw[y.aK r q]at x;exact .inl (t.wW r C k x)
  .intro r C o M k x;have L:=M;rw[y.ar]at L;by_cases q:r=a
   .subst q;rw[bL]at L;rcases dZ.1 L with L|L
    .exact .inl (t.fold r C o L k x)
    exact .inr ⟨y.GI o L k x,(cX ((y.wr.bN.fa r C).2 o M) k x).2⟩
   rw[ch _ _ q]at L;exact .inl (t.fold r C o L k x)
  intro k x;rcases x with x|x
  .exact c0 (t.lt k x) y.size
  exact x.2
 have W:∀k,k<c.heap.size->¬d k->u.heap[k]?=c.heap[k]?:=λk x R=>y.other k x (λq=>R (t.ud k q.symm)) (λq=>R (t.vz a U.hc k q.symm)) (λq=>R (t.wW a U.hc k q.symm))
 have N:=λk x=>W k (n.lt k x) (n.xC k x)
 have C:=λk x=>W k (n.cI k x) (n.yP k x)
 refine⟨λk=>d k\/(c.heap.size<=k/\k<u.heap.size),e,h,{i with bi:=D,cops:=z},⟨xD,λa F=>cu (n.en a F) λg E=>N g (n.lw a F g E),λa F=>cu (n.df a F) λg E=>N g (n.xB a F g E),λa F=>cu (n.DI a F) λg E=>N g (n.BZ a F g E),λa v F S=>cu (n.qu a v F S) λg E=>N g (n.nk a v F S g E),cu n.cE λg E=>N g (n.B0 g E),λr I=>cu (n.hl r I) λg E=>N g (n.hL r I g E),λr w I Q=>(n.aw r w I Q).ak λg E=>N g (n.pW r w I Q g E),n.pm,λr w I Q m M=>⟨(n.l6 r w I Q m M).1.fW (n.l6 r w I Q m M).2.1 (n.l6 r w I Q m M).2.2 C,(n.l6 r w I Q m M).2⟩,n.lw,n.xB,n.BZ,n.nk,n.B0,n.hL,n.pW,n.B1,n.DJ,n.zO,n.DK,n.dQ,n.B2,?_,λk x=>c0 (n.lt k x) y.size,λk x=>c0 (n.cI k x) y.size,?_,n.oa⟩,⟨y.os,y.tape,y.output,y.size,λk x R=>W k x λq=>R (.inl q),?_⟩,λk x=>⟨x,C k x⟩,rfl⟩
 .rintro k x (q|q)
  .exact n.xC k x q
  exact absurd (n.lt k x) (by omega)
 .rintro k x (q|q)
  .exact n.yP k x q
  exact absurd (n.cI k x) (by omega)
 rintro k ((q|q)|q|q)
 .exact .inl (.inl q)
 .exact .inr q.1
 .exact .inl (.inr (.inl q))
 exact .inl (.inr (.inr q))
theorem apz (g:c3 c b d e h f j i) (p:Own f j.P j.ai a s) (q r n:Int) (o:ByteArray) (x:o.size<=maxLen):
  O 94 #[Z b,A a,.agg #[A q,A r],.string o,A n] c λk t=>
   (∃m,wP (s.foldl cC dD) (ct s) (j.P a).length a (q,r) o n=.error m/\k=ad (A m)/\j7 b f d e h i.vl c t j)\/
   (∃u,wP (s.foldl cC dD) (ct s) (j.P a).length a (q,r) o n=.ok u/\k=ad (A 0)/\j7 b f d e h i.vl c t (kS j a u)):=by
 have y:(i.cops a).length=(j.P a).length:=by rw[<-g.cm.ar a p.hc,c2]
 rw[<-y];refine(aiR (g.cm.A5 p) p.top q r n o x).mono λk t z=> ?_
 rcases z with⟨m,v,w,B⟩|⟨u,v,w,l,D,E,F,rfl,C⟩
 .exact .inl ⟨m,v,w,g.left B⟩
 exact .inr ⟨_,v,w,g.Ia p C⟩
theorem apA (g:c3 c b d e h f j i) (o:Own f j.P j.ai a s) (p q:Int) (n:ByteArray) (x:n.size<=maxLen) (r:Bool):
  O 95 #[Z b,A a,.agg #[A p,A q],.string n,.bool r] c λk t=>
   (∃m,wQ (s.foldl cC dD) (ct s) (j.P a).length a (p,q) n r=.error m/\k=ad (.tuple #[.agg #[A 0,A 0],A m])/\j7 b f d e h i.vl c t j)\/
   (∃u,wQ (s.foldl cC dD) (ct s) (j.P a).length a (p,q) n r=.ok u/\k=ad (.tuple #[.agg #[A (ct s+1),A a],A 0])/\j7 b f d e h i.vl c t (kS j a u)):=by
 have y:(i.cops a).length=(j.P a).length:=by rw[<-g.cm.ar a o.hc,c2]
 rw[<-y];refine(aiU (g.cm.A5 o) o.top p q n x r).mono λk t z=> ?_
 rcases z with⟨m,v,w,B⟩|⟨u,v,w,l,D,E,F,rfl,C⟩
 .exact .inl ⟨m,v,w,g.left B⟩
 exact .inr ⟨_,v,w,g.Ia o C⟩
theorem apB (g:c3 c b d e h f j i) (o:Own f j.P j.ai a s) (p q:Int) (n:ByteArray) (w:n.size<=maxLen):
  O 97 #[Z b,A a,.agg #[A p,A q],.string n] c λk r=>
   (∃m,vq (s.foldl cC dD) (ct s) (j.P a).length a (p,q) n=.error m/\k=ad (A m)/\j7 b f d e h i.vl c r j)\/
   (∃t,vq (s.foldl cC dD) (ct s) (j.P a).length a (p,q) n=.ok t/\k=ad (A 0)/\j7 b f d e h i.vl c r (kS j a t)):=by
 have x:(i.cops a).length=(j.P a).length:=by rw[<-g.cm.ar a o.hc,c2]
 rw[<-x];refine(aiT (g.cm.A5 o) o.top p q n w).mono λk r y=> ?_
 rcases y with⟨m,u,v,z⟩|⟨t,u,v,l,C,D,E,rfl,B⟩
 .exact .inl ⟨m,u,v,g.left z⟩
 exact .inr ⟨_,u,v,g.Ia o B⟩
theorem apC (g:c3 c b d e h f j i) (p:Own f j.P j.ai a s) (q r k n:Int):
  O 98 #[Z b,A a,.agg #[A q,A r],A k,A n] c λo t=>
   (∃m,vr (s.foldl cC dD) (ct s) (j.P a).length a (q,r) k n=.error m/\o=ad (.tuple #[.agg #[A 0,A 0],A m])/\j7 b f d e h i.vl c t j)\/
   (∃u,vr (s.foldl cC dD) (ct s) (j.P a).length a (q,r) k n=.ok u/\o=ad (.tuple #[.agg #[A (ct s+1),A a],A 0])/\j7 b f d e h i.vl c t (kS j a u)):=by
 have x:(i.cops a).length=(j.P a).length:=by rw[<-g.cm.ar a p.hc,c2]
 rw[<-x];refine(aiV (g.cm.A5 p) p.top q r k n).mono λo t y=> ?_
 rcases y with⟨m,v,w,z⟩|⟨u,v,w,l,C,D,E,rfl,B⟩
 .exact .inl ⟨m,v,w,g.left z⟩
 exact .inr ⟨_,v,w,g.Ia p B⟩
theorem apD (g:c3 c b d e h f j i) (o:Own f j.P j.ai a s) (p q k:Int) (r:Bool):
  O 100 #[Z b,A a,.agg #[A p,A q],A k,.bool r] c λn t=>
   (∃m,vs (s.foldl cC dD) (ct s) (j.P a).length a (p,q) k r=.error m/\n=ad (.tuple #[.agg #[A 0,A 0],A m])/\j7 b f d e h i.vl c t j)\/
   (∃u,vs (s.foldl cC dD) (ct s) (j.P a).length a (p,q) k r=.ok u/\n=ad (.tuple #[.agg #[A (ct s+1),A a],A 0])/\j7 b f d e h i.vl c t (kS j a u)):=by
 have x:(i.cops a).length=(j.P a).length:=by rw[<-g.cm.ar a o.hc,c2]
 rw[<-x];refine(aiZ (g.cm.A5 o) o.top p q k r).mono λn t y=> ?_
 rcases y with⟨m,v,w,z⟩|⟨u,v,w,l,C,D,E,rfl,B⟩
 .exact .inl ⟨m,v,w,g.left z⟩
 exact .inr ⟨_,v,w,g.Ia o B⟩
theorem apE (g:c3 c b d e h f j i) (p:Own f j.P j.ai a s) (q r k n:Int):
  O 101 #[Z b,A a,.agg #[A q,A r],A k,A n] c λo t=>
   (∃m,lV (s.foldl cC dD) (ct s) (j.P a).length a (q,r) k 3 n=.error m/\o=ad (A m)/\j7 b f d e h i.vl c t j)\/
   (∃u,lV (s.foldl cC dD) (ct s) (j.P a).length a (q,r) k 3 n=.ok u/\o=ad (A 0)/\j7 b f d e h i.vl c t (kS j a u)):=by
 have x:(i.cops a).length=(j.P a).length:=by rw[<-g.cm.ar a p.hc,c2]
 rw[<-x];refine(ajc (g.cm.A5 p) p.top q r k n).mono λo t y=> ?_
 rcases y with⟨m,v,w,z⟩|⟨u,v,w,l,C,D,E,rfl,B⟩
 .exact .inl ⟨m,v,w,g.left z⟩
 exact .inr ⟨_,v,w,g.Ia p B⟩
theorem apF (g:c3 c b d e h f j i) (o:Own f j.P j.ai a s) (p q k:Int):
  O 102 #[Z b,A a,.agg #[A p,A q],A k] c λn r=>
   (∃m,lV (s.foldl cC dD) (ct s) (j.P a).length a (p,q) k 4 0=.error m/\n=ad (A m)/\j7 b f d e h i.vl c r j)\/
   (∃t,lV (s.foldl cC dD) (ct s) (j.P a).length a (p,q) k 4 0=.ok t/\n=ad (A 0)/\j7 b f d e h i.vl c r (kS j a t)):=by
 have w:(i.cops a).length=(j.P a).length:=by rw[<-g.cm.ar a o.hc,c2]
 rw[<-w];refine(ajd (g.cm.A5 o) o.top p q k).mono λn r x=> ?_
 rcases x with⟨m,u,v,y⟩|⟨t,u,v,l,B,C,D,rfl,z⟩
 .exact .inl ⟨m,u,v,g.left y⟩
 exact .inr ⟨_,u,v,g.Ia o z⟩
theorem c3.ael (o:c3 c q e d h l j i) (u:a<l) (v:f<l) {W:World} {v':Value} {cm':List gM} {I':Nat->Prop} (z:aR (λn=>gr (i.hv a f)=some n) c W)
  (B:ji W 251 3 v' cm'.length (cm'.flatMap gR)) (N:∀n,gr v'=some n->gr (i.hv a f)=some n\/c.heap.size<=n)
  (C:∀n,I' n->h n\/(n<W.heap.size/\¬e n/\¬d n/\gr v'≠some n)) (P:∀n,h n->I' n)
  (Q:∀m∈cm',tL W m/\(∀n,m.oH.ownBlock=some n->I' n)/\∀n,m.cl.ownBlock=some n->I' n) {D:Nat} (x:i.vl a=aa k l D):
  c3 (W.setCell (K k (f*2+1)) v') q e (λn=>d n\/(c.heap.size<=n/\gr v'=some n)) I' l (ht j a f (cm'.map gM.p)) (wa i a f v' cm')/\aR d c (W.setCell (K k (f*2+1)) v'):=by
 have w:(i.vl a).ownBlock=some k:=by rw[x];rfl
 obtain⟨R,S⟩:=b0 (o.hl a u) w;have U:gr (i.hv a f)≠some k:=λr=>by
  obtain⟨X,E⟩:=(o.aw a f u v).lt r
  simp_all
 have Y:W.heap[k]?=some (.cells R 249):=by rw[z.other k (aU S) U];omega
 have Xi:W.ownsRow 0 249 2 (aa k l D) l ((List.range l).flatMap λs=>[.bool (j.sh a s),i.hv a s]):=by
  rw[<-x];exact cu (o.hl a u) λg aq=>by simp_all
 have F:aR (λn=>(i.vl a).ownBlock=some n\/gr (i.hv a f)=some n) c (W.setCell (K k (f*2+1)) v'):=(z.mono λn t=>.inr t).trans (aR.it v' (.inl w));have cw:(W.setCell (K k (f*2+1)) v').heap.size=W.heap.size:=by simp
 have I:=o.HO u v (b:=j.sh a f) (v':=v') (cm':=cm') (I':=I') F (by
   have :=Ki Xi (f*2+1) v';rw[aej (List.range l) f agi (by rw[agj v])]at this;rw[x,yR];exact this) (B.ak λn t=>dE λr=>by subst r;obtain⟨X,E⟩:=B.lt t;exact absurd (cQ Y E) (by decide)) N (λn t=>by rw[cw];exact C n t) P (λm hm=>by
   obtain⟨h1,L,M⟩:=Q m hm;refine⟨h1.fW L M λn t=>dE λr=> ?_,L,M⟩;subst r;rcases C n t with y|y
   .exact o.oa n y (o.hL a u n w)
   exact y.2.2.1 (o.hL a u n w))
 rw[apx]at I;exact⟨I,F.mono λn t=>t.elim (o.hL a u n) (o.pW a f u v n)⟩
theorem c3.stored (o:c3 c k e h d a j i) (x:b<a) (y:f<a) {W:World} {v':Value} {cm':List gM} {I':Nat->Prop} (z:aR (λg=>gr (i.hv b f)=some g) c W)
  (B:ji W 251 3 v' cm'.length (cm'.flatMap gR)) (C:∀g,gr v'=some g->gr (i.hv b f)=some g\/c.heap.size<=g)
  (u:∀g,I' g->d g\/(c.heap.size<=g/\g<W.heap.size/\gr v'≠some g)) (v:∀g,d g->I' g)
  (D:∀m∈cm',tL W m/\(∀g,m.oH.ownBlock=some g->I' g)/\∀g,m.cl.ownBlock=some g->I' g) (E:i.vl b=aa l a q):
  j7 k a e h d i.vl c (W.setCell (K l (f*2+1)) v') (ht j b f (cm'.map gM.p)):=by
 obtain⟨F,s⟩:=o.ael x y z B C (λg r=>(u g r).imp id λn=>⟨n.2.1,λt=>absurd (o.cm.lt g t) (by omega),λt=>absurd (o.lt g t) (by omega),n.2.2⟩) v D E;refine⟨_,_,_,_,F,⟨s.os,s.tape,s.output,s.size,λg r I=>s.other g r λn=>I (.inr (.inl n)),?_⟩,λg r=>⟨v g r,s.other g (o.cI g r) (o.oa g r)⟩,rfl⟩;rintro g (n|(n|n)|n)
 .exact .inl (.inl n)
 .exact .inl (.inr (.inl n))
 .omega
 rcases u g n with w|w
 .exact .inl (.inr (.inr w))
 omega
theorem c3.apG{r}(o:c3 c r e h d l j i)(t:f<l)(u:k<l){F:Nat}(w:i.vl f=aa q l F):j7 r l e h d i.vl c (c.setCell (K q (k*2)) (.bool true)) (BX j f k):=by
 have x:(i.vl f).ownBlock=some q:=by rw[w];rfl
 obtain⟨N,y⟩:=b0 (o.hl f t) x;have P:=aU y;have v:aR (λn=>(i.vl f).ownBlock=some n\/gr (i.hv f k)=some n) c (c.setCell (K q (k*2)) (.bool true)):=aR.it _ (.inl x);have z:=o.HO t u (b:=true) (v':=i.hv f k) (cm':=i.jF f k) (I':=d) v (by
   have B:=o.hl f t;rw[w]at B;have :=Ki B (k*2) (.bool true);rw[aek (a:=λp=>.bool (j.sh f p)) (List.range l) k agi (by rw[agj u])]at this;rw[w,yR];have g:(λp=>[upd (λp=>Value.bool (j.sh f p)) k (.bool true) p,i.hv f p])=λp=>[.bool (upd (j.sh f) k true p),i.hv f p]:=by
    funext p;by_cases g:p=k
    .subst g;rw[bL,bL]
    rw[ch _ _ g,ch _ _ g]
   rw[g]at this;exact this) ((o.aw f k t u).ak λn s=>dE λg=>by subst g;obtain⟨Q,I⟩:=(o.aw f k t u).lt s;exact absurd (cQ y I) (by decide)) (λn s=>.inl s) (λn s=>.inl s) (λn s=>s) (λm L=>by
   obtain⟨M,C,D⟩:=o.l6 f k t u m L;refine⟨M.fW C D λn s=>dE λg=> ?_,C,D⟩;subst g;exact o.oa n s (o.hL f t n x))
 rw[o.pm f k t u,apy]at z;refine⟨_,_,_,_,z,⟨v.os,v.tape,v.output,v.size,λn s E=>v.other n s λg=> ?_,?_⟩,λn s=>⟨s,v.other n (o.cI n s) λg=>o.oa n s (g.elim (o.hL f t n) (o.pW f k t u n))⟩,rfl⟩
 .rcases g with g|g
  .exact E (.inr (.inl (o.hL f t n g)))
  exact E (.inr (.inl (o.pW f k t u n g)))
 rintro n (g|(g|g)|g)
 .exact .inl (.inl g)
 .exact .inl (.inr (.inl g))
 .exact .inr g.1
 exact .inl (.inr (.inr g))
theorem c3.queue(m:c3 c l d e h f j i)(p:a<f)(r:b<f):∃s t,i.hv a b=.slice s (j.ms a b).length t/\(j.ms a b).length<=t/\(0<(j.ms a b).length->∃g n,s=some (K g n)):=by
 have u:(i.jF a b).length=(j.ms a b).length:=by rw[<-m.pm a b p r,c2]
 rw[<-u];rcases(m.aw a b p r).at' with⟨q,o,v⟩|⟨g,n,x,y,o,z,w,_⟩
 .exact⟨q,0,by rw[o,v],by omega,λk=>by omega⟩
 exact⟨_,_,o,w,λ_=>⟨g,n,rfl⟩⟩
theorem c3.first{w r F S x}(h:c3 w r F e d b S x){c:Nat}(s:c<b)(t:a<b){g n:Nat}{p:la}{y:List la}(R:S.ms c a=p::y)(I:x.hv c a=.slice (some (K g f)) (n+1) l)(U:n=y.length):∃m i,x.jF c a=m::i/\m.p=p/\i.map gM.p=y/\tL w m/\w.cell? (K g f)=some (.bool p.q)/\w.cell? (K g (f+1))=some m.oH/\w.cell? (K g (f+2))=some m.cl/\
  ∀{z L:Nat} (M:x.vl c=aa z b L) (o:Option Addr) (B:0<l-1->o=some (K g (f+3))),j7 r b F e d x.vl w (w.setCell (K z (a*2+1)) (.slice o n (l-1))) (ht S c a y):=by
 have u:=h.pm c a s t;rw[R]at u
 match C:x.jF c a,u with
 |m::i,u=>
  rw[ip]at u;injection u with N D;have P:i.length=n:=by rw[U,<-D,c2]
  have E:=h.aw c a s t;rw[C,I,iq,P]at E;have v:=E.cell (by omega);obtain⟨g',aeh,X,_,_,v⟩:=v;obtain⟨rfl,rfl⟩:=X;refine⟨m,i,rfl,N,D,(h.l6 c a s t m (by rw[C];simp)).1,by rw[<-N];exact v 0 (.bool m.p.q) rfl,v 1 m.oH rfl,v 2 m.cl rfl,λ{z L} M o B=> ?_⟩;have :=h.stored s t (W:=w) (v':=.slice o n (l-1)) (cm':=i) (I':=d) ⟨rfl,rfl,rfl,bW _,λ_ _ _=>rfl⟩ (by rw[P];exact E.tail o B) (λk j=>.inl (by
    rw[I,RI];by_cases Q:l-1=0
    .rw[Q]at j;cases o<;>simp[gr]at j
    rw[B (by omega),RI,a7 Q]at j;rw[a7 (by omega)];exact j)) (λk j=>.inl j) (λk j=>j) (λY eU=>h.l6 c a s t Y (by rw[C];simp[eU])) M
  rw[D]at this;exact this
theorem apH (o:c3 c b d e h a j i) (f k:Nat) (t:f<a) (y:k<a) (N:f≠k):
  O 117 #[Z b,A f,A k] c λq P=>q=ad (A (if j.ms f k=[] then 12 else 0))/\j7 b a d e h i.vl c P (if j.ms f k=[] then j else H8 j f k):=by
 have E:=FO o f k t y N;obtain⟨vZ,o5,F,gp,_,_,_,_,u,_,r⟩:=o.xE t y;obtain⟨q7,Q,v,C,z⟩:=o.queue t y;have R:=r;rw[v]at r;by_cases s:j.ms f k=[]
 .rw[bn s,bn s];rw[s]at r;go_enter func117,ntmps117;go_wp2_with fail
  refine E.mono ?_;rintro q S ⟨⟨U,W,w,rfl⟩,rfl⟩;rw[u]at w;obtain⟨rfl,rfl⟩:=w;go_wp2;go_ret
  exact⟨rfl,o.left (ca _ _)⟩
 rw[a7 s,a7 s];obtain⟨p,x,D⟩:∃p x,j.ms f k=p::x:=by
  cases q:j.ms f k with
  |nil=>exact absurd q s
  |cons p x=>exact⟨p,x,rfl⟩
 rw[D]at r z C v;simp only[iq]at r z C v;obtain⟨g,X,rfl⟩:=z (by omega);obtain⟨n,B⟩:∃n,n=x.length:=⟨_,rfl⟩;have Y:=o.first t y D (by rw[v,B]) B
 rw[<-B]at r C;have I:(i.vl f).ownBlock=some F:=by rw[u];rfl
 obtain⟨cur,L⟩:=b0 (o.hl f t) I;have j8:=cV L (k*2+1);clear o s R z v I L B;have oW:¬((n:Int)+1=0):=by omega
 have bI:=World.new_ne c (K F (k*2+1)) r;go_enter func117,ntmps117;go_wp2_with fail
 refine E.mono ?_;rintro q S ⟨⟨U,W,w,rfl⟩,rfl⟩;rw[u]at w;obtain⟨rfl,rfl⟩:=w;go_wp2
 all_goals go_ret
 all_goals(
  obtain⟨m,l,_,_,_,_,_,_,_,M⟩:=Y;refine⟨rfl,?_⟩;unfold H8;rw[D]
  first
   |exact M u _ (λ_=>rfl)
   |(obtain rfl:Q=1:=(by omega);exact M u (some (K g X)) (λq=>by omega)))
theorem apI (k:c3 c b d e h a j i) (f g:Nat) (o:f<a) (q:g<a) (t:f≠g):
  O 121 #[Z b,A f,A g] c λl u=>l=ad (A (if j.sh f g=true then 10 else 0))/\j7 b a d e h i.vl c u (if j.sh f g=true then j else BX j f g):=by
 have r:=FO k f g o q t;obtain⟨D,E,v,F,_,_,_,_,p,s,_⟩:=k.xE o q;have w:(i.vl f).ownBlock=some v:=by rw[p];rfl
 obtain⟨I,x⟩:=b0 (k.hl f o) w;have L:=cV x (g*2);by_cases m:j.sh f g=true
 .rw[bn m,bn m];rw[m]at s;go_enter func121,ntmps121;go_wp2_with fail
  refine r.mono ?_;rintro l y ⟨⟨z,B,n,rfl⟩,rfl⟩;rw[p]at n;obtain⟨rfl,rfl⟩:=n;go_wp2;go_ret
  exact⟨rfl,k.left (ca _ _)⟩
 rw[a7 m,a7 m];have C:j.sh f g=false:=by simp_all
 rw[C]at s;go_enter func121,ntmps121;go_wp2_with fail
 refine r.mono ?_;rintro l y ⟨⟨z,B,n,rfl⟩,rfl⟩;rw[p]at n;obtain⟨rfl,rfl⟩:=n;go_wp2;go_ret
 exact⟨rfl,k.apG o q p⟩
theorem ji.form{k}(h:ji c n k m a r):∃b d,m=.slice b a d:=by
 rcases h.at' with⟨b,e,f⟩|⟨g,i,d,j,e,_⟩
 .simp_all
 simp_all
theorem No{w:World}{c:Value}(h:w.heap[a]?=some (.cells #[m,y,c] n)):∀j u,[m,y,c][j]?=some u->w.cell? (K a j)=some u:=by
 intro j u b;simp only[World.cell?,h]
 simp_all
theorem RL{c d:Option Addr}(g:E.oH=.slice c a f)(h:E.cl=.slice d b k):∀u∈gR E,u.oneCell'=true:=by intro u e;simp only[gR,g,h,ft,SZ,S0]at e;rcases e with rfl|rfl|rfl<;>rfl
theorem c3.aen (r:c3 u l h e d f j i) (t:b<f) (v:a<f) {W:World} {v':Value} (M:J u c) (N:aR (λn=>gr (i.hv b a)=some n) c W) (B:ji W 251 3 v' ((i.jF b a).length+1) ((i.jF b a++[E]).flatMap gR))
  (dJ:∀n,gr v'=some n->gr (i.hv b a)=some n\/c.heap.size<=n) (z:tL c E) (P:∀n,E.oH.ownBlock=some n->d n\/(¬h n/\¬e n)) (Q:∀n,E.cl.ownBlock=some n->d n\/(¬h n/\¬e n)) (aO:i.vl b=aa k f q):
  ∃R I',c3 (W.setCell (K k (a*2+1)) v') l h R I' f (ht j b a (j.ms b a++[E.p])) (wa i b a v' (i.jF b a++[E]))/\aR e u (W.setCell (K k (a*2+1)) v')/\(∀n,R n->e n\/u.heap.size<=n)/\(∀n,d n->I' n)/\∀n,I' n->d n\/E.oH.ownBlock=some n\/E.cl.ownBlock=some n:=by
 have S:=(aR.cL M).trans N;have U:∀n,n<c.heap.size->(d n\/(¬h n/\¬e n))->W.heap[n]?=c.heap[n]?:=λn s x=>N.other n s λo=>by
  rcases x with x|x
  .exact r.oa n x (r.pW b a t v n o)
  exact x.2 (r.pW b a t v n o)
 have C:=cu z.1 λg y=>U g (cX z.1 g y).2 (P g y)
 have D:=cu z.2 λg y=>U g (cX z.2 g y).2 (Q g y)
 have c6:∀n,(d n\/E.oH.ownBlock=some n\/E.cl.ownBlock=some n)->d n\/(n<W.heap.size/\¬h n/\¬e n/\gr v'≠some n):=λn s=>by
  rcases s with s|s|s
  .simp_all
  .rcases P n s with o|o
   .exact .inl o
   refine .inr ⟨(cX C n s).2,o.1,o.2,λF=> ?_⟩;obtain⟨cur,I⟩:=B.lt F;obtain⟨hE,L⟩:=b0 C s;exact absurd (cQ I L) (by decide)
  rcases Q n s with o|o
  .exact .inl o
  refine .inr ⟨(cX D n s).2,o.1,o.2,λF=> ?_⟩;obtain⟨cur,I⟩:=B.lt F;obtain⟨hE,L⟩:=b0 D s;exact absurd (cQ I L) (by decide)
 have :=r.ael t v (W:=W) (v':=v') (cm':=i.jF b a++[E]) (I':=λn=>d n\/E.oH.ownBlock=some n\/E.cl.ownBlock=some n) S (by rw[dh];exact B) (λn s=>(dJ n s).imp id λo=>cd M.size o) c6 (λn s=>.inl s) (λm w=>by
  rcases dZ.1 w with w|w
  .obtain⟨h1,X,Y⟩:=r.l6 b a t v m w;exact⟨h1.fW X Y λn s=>S.other n (r.cI n s) λo=>r.oa n s (r.pW b a t v n o),λn s=>.inl (X n s),λn s=>.inl (Y n s)⟩
  rw[fR]at w;subst w;exact⟨⟨C,D⟩,λn s=>.inr (.inl s),λn s=>.inr (.inr s)⟩) aO
 rw[ga,r.pm b a t v]at this;exact⟨_,_,this.1,this.2,λn s=>s.imp id (·.1),λn s=>.inl s,λn s=>s⟩
theorem c3.RM (o:c3 c k e h d f j i) (x:a<f) (y:b<f) {W:World} (z:J c u) (B:aR (λg=>gr (i.hv a b)=some g) u W) (C:ji W 251 3 m ((i.jF a b).length+1) ((i.jF a b++[E]).flatMap gR))
  (D:∀g,gr m=some g->gr (i.hv a b)=some g\/u.heap.size<=g) (F:tL u E) (t:∀g,E.oH.ownBlock=some g->d g\/c.heap.size<=g) (v:∀g,E.cl.ownBlock=some g->d g\/c.heap.size<=g) (I:i.vl a=aa l f q):
  j7 k f e h d i.vl c (W.setCell (K l (b*2+1)) m) (ht j a b (j.ms a b++[E.p])):=by
 have w:∀g,c.heap.size<=g->¬e g/\¬h g:=λg r=>⟨λn=>absurd (o.cm.lt g n) (by omega),λn=>absurd (o.lt g n) (by omega)⟩
 obtain⟨R,S,L,s,M,N,P⟩:=o.aen x y z B C D F (λg r=>(t g r).imp id (w g)) (λg r=>(v g r).imp id (w g)) I;refine⟨_,_,_,_,L,⟨s.os,s.tape,s.output,s.size,λg r Q=>s.other g r λn=>Q (.inr (.inl n)),?_⟩,λg r=>⟨N g r,s.other g (o.cI g r) (o.oa g r)⟩,rfl⟩;rintro g (n|n|n)
 .exact .inl (.inl n)
 .rcases M g n with n|n
  .exact .inl (.inr (.inl n))
  omega
 rcases P g n with n|n|n
 .exact .inl (.inr (.inr n))
 .rcases t g n with n|n
  .exact .inl (.inr (.inr n))
  omega
 rcases v g n with n|n
 .exact .inl (.inr (.inr n))
 omega
theorem apJ {w:World} {I:Nat->Prop} (h:c3 w b d e I a j i) (c f:Nat) (l:c<a) (r:f<a) (aZ:c≠f):
  O 113 #[Z b,A c,A f] w λg w'=>g=ad (A (if j.sh c f=true then 10 else if 12<=(j.ms c f).length then 8 else 0))/\j7 b a d e I i.vl w w' (DD a j c f):=by
 have M:=ag (FO h c f l r aZ);obtain⟨vZ,o5,y,gp,_,_,_,_,z,dN,s⟩:=h.xE l r;obtain⟨D,E,t,pX,mC⟩:=h.queue l r;have j9:=ag t;rw[t]at s;have N:=ag h;have ci:(i.vl c).ownBlock=some y:=by rw[z];rfl
 obtain⟨cur,F⟩:=b0 (h.hl c l) ci;have a1:=ag F;have P:=ag (show gr (.slice D (j.ms c f).length E)≠some y from λg=>by rw[<-t]at g;obtain⟨hE,Q⟩:=(h.aw c f l r).lt g;exact absurd (cQ F Q) (by decide))
 have dG:=aU F;unfold DD;clear pX mC ci F;by_cases p:j.sh c f=true
 .rw[bn p,bn (.inl p)];rw[p]at dN;clear p h t;go_enter func113,ntmps113;go_wp2_with fail
  refine M.o.mono ?_;rintro g R ⟨⟨rm,rn,m,rfl⟩,rfl⟩;rw[z]at m;simp only[oO,po,tU,sb,qJ]at m;obtain⟨rfl,rfl⟩:=m;go_wp2;go_ret
  exact⟨rfl,N.o.left (ca _ _)⟩
 rw[a7 p];have S:j.sh c f=false:=by cases g:j.sh c f with |false=>rfl|true=>exact absurd g p
 rw[S]at dN;obtain⟨n,v⟩:∃n,n=(j.ms c f).length:=⟨_,rfl⟩;rw[<-v]at s;by_cases x:12<=(j.ms c f).length
 .rw[bn x,bn (.inr x)];have Ae:(12:Int)<=(n:Int):=by omega
  clear p S h t v x;go_enter func113,ntmps113;go_wp2_with fail
  refine M.o.mono ?_;rintro g R ⟨⟨rm,rn,m,rfl⟩,rfl⟩;rw[z]at m;simp only[oO,po,tU,sb,qJ]at m;obtain⟨rfl,rfl⟩:=m;go_wp2;go_ret
  exact⟨rfl,N.o.left (ca _ _)⟩
 rw[a7 x,a7 (λg=>g.elim p x)];have Ae:¬((12:Int)<=(n:Int)):=by omega
 have hN:=h.cm.bN.hN;have bq:=h.cm.bN.bq;obtain⟨gO,rD,dy,fy,I5,Np,_,Cr,_,cells⟩:=h.cm.bN.row (by omega);rw[Np]at bq;have eh:=cells c l;have qa:(0:Int)<=(c:Int):=kG _;have jT:(c:Int)<(a:Int):=by omega
 obtain⟨gH,oV,Eu,_,_⟩:=h.cm.bN.Gx l;have Nl:=ag (λW (ah:J w W)=>aei (w:=W) (dI (h.cm.bN.vj l) ah) (by simp;omega));rw[Eu]at eh Nl;have hlen:(i.jF c f).length=n:=by rw[v,<-h.pm c f l r,c2]
 have sF:=ag hlen;have FP:=ag (show n<12 by omega);have U:=ag (show i.hv c f=.slice D n E by rw[v];exact t);rw[<-v]at P;have kN:=ag (show J w w.drew from(gb w));have Af:=ag (show ji w 251 3 (.slice D n E) (i.jF c f).length ((i.jF c f).flatMap gR) by rw[<-U.o];exact h.aw c f l r);clear p S h t v x hlen Np I5 Eu cells j9;go_enter func113,ntmps113;go_wp2_with fail
 refine M.o.mono ?_;rintro g R ⟨⟨rm,rn,m,rfl⟩,rfl⟩;rw[z]at m;simp only[oO,po,tU,sb,qJ]at m;obtain⟨rfl,rfl⟩:=m;go_wp2_with fail
 go_region_law (first
  |(go_simp;go_at_call 154;refine(Nl.o _ kN.o).mono ?_;rintro g q ⟨u,rfl,hu,bu⟩;have B:=Hq.o (nv bu);clear bu;replace s:=ak B s;have ox:=B.size;have C7:y<q.heap.size:=(by omega);have abx:=World.new_ne q (K y (f*2+1)) s;have eQ:=ag (bB a1.o B);have cj:=ag B;have X:=ag hu;clear B hu;obtain⟨Y,lX,qV,hu4,hu5,hu6⟩:=bz X.o;rw[c2,ww]at qV;subst qV;clear hu4 hu5 hu6;have b9:=ag (show J q (q.alloc (.cells #[.bool true,.slice Y a lX,.slice none 0 0] 251)) from aV q _);have aep:=ag (show J R (q.alloc (.cells #[.bool true,.slice Y a lX,.slice none 0 0] 251)) from(bp cj.o b9.o));dsimp only)
  |(refine Xg gR 3 56 247 251 (.agg #[.bool false,.slice none 0 0,.slice none 0 0]) (by kernel_rfl) underlying247 rfl (by omega) (λ_=>rfl) (by rfl) (.tmp 36) (.tmp 47) (by rfl) (.slice D n E) (i.jF c f) (by rfl) (Af.o.ak λk C=>aep.o.block k (by obtain⟨hE,Q⟩:=Af.o.lt C;exact aU Q)) q.heap.size 1 ⟨⟨true,(List.range a).map (j.ai c),[]⟩,.slice Y a lX,.slice none 0 0⟩ (by rfl) (No (bZ q _)) (RL rfl rfl) (by rw[sF.o];have :=FP.o;omega) (by rw[sF.o];have :=FP.o;unfold maxLen;omega) ?_;intro v4 w4 hM L iu;have fU:=ag hM;have mE:=ag L;have ny:=ag iu;have hr:=ag ((L.other y (by simp;omega) P.o).trans ((is _ _ C7).trans eQ.o));replace s:=L.cell P.o (ak b9.o s);clear hM L iu;obtain⟨a4,lo,rfl⟩:=fU.o.form;have xX:=cV hr.o (f*2+1)))
 all_goals go_wp2
 all_goals go_ret
 all_goals(
  refine⟨rfl,?_⟩;have :=N.o.RM l r aep.o (by rw[U.o];exact mE.o) fU.o (by rw[U.o];exact ny.o) ⟨dI (ii X.o (b6 _)) b9.o,hg _ _ _ _⟩ (λk C=>.inr (cX X.o k C).1) (λk C=>by cases C) z;exact this)
theorem apK {I:Nat->Prop} (h:c3 c b d e I a j i) (r s:Nat) (v:r<a) (w:s<a) (aZ:r≠s):
  O 118 #[Z b,A r,A s] c λt w'=>t=ad (A (if j.ms r s=[] then 12 else if j.sh r s=true then 10 else if 12<=(j.ms r s).length then 8 else 0))/\j7 b a d e I i.vl c w' (DF j r s):=by
 have N:=FO h r s v w aZ;obtain⟨vZ,o5,P,gp,_,_,_,_,C,dN,y⟩:=h.xE v w;obtain⟨q7,lG,D,Q,R⟩:=h.queue v w;rw[D]at y;have E:=h;have ci:(i.vl r).ownBlock=some P:=by rw[C];rfl
 obtain⟨cur,cH⟩:=b0 (h.hl r v) ci;have a1:=ag cH;have l9:=show gr (i.hv r s)≠some P from λt=>by obtain⟨hE,cD⟩:=(h.aw r s v w).lt t;exact absurd (cQ cH cD) (by decide)
 have dG:=aU cH;unfold DF
 match F:j.ms r s with
 |[]=>
  rw[bn rfl];rw[F]at y;go_enter func118,ntmps118;go_wp2_with fail
  refine N.mono ?_;rintro t S ⟨⟨rm,rn,u,rfl⟩,rfl⟩;rw[C]at u;obtain⟨rfl,rfl⟩:=u;go_wp2;go_ret
  exact⟨rfl,E.left (ca _ _)⟩
 |p::U=>
  rw[a7 (by simp)];simp only;rw[F]at y R Q D;simp only[iq]at y R Q D;obtain⟨g,off,rfl⟩:=R (by omega);obtain⟨n,x⟩:∃n,n=U.length:=⟨_,rfl⟩;obtain⟨m,l,dM,au,hl,W,f0,f1,f2,fK⟩:=h.first v w F (by rw[D,x]) x
  have mA:=ag (show i.hv r s=.slice (some (K g off)) (n+1) lG by rw[D,x]);rw[<-x]at y Q;have sF:=ag (show(i.jF r s).length=n+1 by rw[dM,iq,<-c2 (f:=gM.p),hl,x]);have Af:=ag (show ji c 251 3 (.slice (some (K g off)) (n+1) lG) (i.jF r s).length ((i.jF r s).flatMap gR) by rw[<-mA.o];exact h.aw r s v w);have bR:=ag W;have zD:=show m.p=p/\j.ms r s=p::U from⟨au,F⟩
  have X:=h.l6 r s v w m (by rw[dM];simp);obtain⟨B3,tO,L,_,_,_⟩:=bz W.1;obtain⟨nE,nF,M,_,_,_⟩:=bz W.2;rw[L]at f1;rw[M]at f2;obtain⟨Y,ma⟩:∃Y,Y=m.p.cF.length:=⟨_,rfl⟩;obtain⟨cx,lj⟩:∃cx,cx=m.p.oG.length:=⟨_,rfl⟩;rw[<-ma]at f1 L;rw[<-lj]at f2 M;have FQ:=aN L M;have oW:¬((n:Int)+1=0):=by omega
  have aeq:(p::U).length=n+1:=by rw[iq,x]
  rw[aeq,show U.length=n from x.symm];obtain⟨tP,xF⟩:∃tP,tP=p.q:=⟨_,rfl⟩;rw[<-xF]at f0;have Kj:=show gR m=[.bool tP,.slice B3 Y tO,.slice nE cx nF] by unfold gR;rw[L,M,xF,au]
  by_cases z:j.sh r s=true
  .rw[bn z,bn (.inl z)];rw[z]at dN;go_enter func118,ntmps118;go_wp2_with fail
   refine N.mono ?_;rintro t S ⟨⟨rm,rn,u,rfl⟩,rfl⟩;rw[C]at u;obtain⟨rfl,rfl⟩:=u;go_wp2;go_ret
   exact⟨rfl,E.left (ca _ _)⟩
  rw[a7 z];have lY:j.sh r s=false:=by cases t:j.sh r s with |false=>rfl|true=>exact absurd t z
  rw[lY]at dN;by_cases iE:12<=n+1
  .rw[bn iE,bn (.inr (by omega))];have Ae:(12:Int)<=(n:Int)+1:=by omega
   go_enter func118,ntmps118;go_wp2_with fail
   refine N.mono ?_;rintro t S ⟨⟨rm,rn,u,rfl⟩,rfl⟩;rw[C]at u;obtain⟨rfl,rfl⟩:=u;go_wp2;go_ret
   exact⟨rfl,E.left (ca _ _)⟩
  rw[a7 iE,a7 (λt=>t.elim (λt=>z t) (λt=>iE (by omega)))];have Ae:¬((12:Int)<=(n:Int)+1):=by omega
  have FP:=show n<12 by omega
  have kN:=ag (show J c c.drew from(gb c));have b9:=show J c (c.drew.alloc (.cells #[.bool tP,.slice B3 Y tO,.slice nE cx nF] 251)) from(gb c).alloc (bW _) _
  have C7:P<c.drew.heap.size:=dG;clear h R Q D F z dM au hl W x L M ma lj aeq xF lY iE;go_enter func118,ntmps118;go_wp2_with fail
  refine N.mono ?_;rintro t S ⟨⟨rm,rn,u,rfl⟩,rfl⟩;rw[C]at u;simp only[oO,po,tU,sb,qJ]at u;obtain⟨rfl,rfl⟩:=u;go_wp2_with fail
  go_region_law (first
   |(refine Xg gR 3 56 247 251 (.agg #[.bool false,.slice none 0 0,.slice none 0 0]) (by rfl) underlying247 rfl (by omega) (λ_=>rfl) (by rfl) (.tmp 43) (.tmp 50) (by rfl) (.slice (some (K g off)) (n+1) lG) (i.jF r s) (by rfl) (Af.o.ak λk B=>b9.block k (by obtain⟨hE,cD⟩:=Af.o.lt B;exact aU cD)) S.heap.size 1 m (by rfl) (by rw[Kj];simp) (RL FQ.1 FQ.2) (by rw[sF.o];omega) (by rw[sF.o];have :=FP;unfold maxLen;omega) ?_;intro v4 w4 hM eF iu;rw[<-mA.o]at eF iu;have fU:=hM;have mE:=eF;have ny:=iu;have hr:=(eF.other P (by simp;omega) l9).trans ((is _ _ C7).trans a1.o);replace y:=eF.cell l9 (ak b9 y);obtain⟨a4,lo,rfl⟩:=fU.form;have xX:=cV hr (s*2+1)))
  all_goals go_wp2
  all_goals go_ret
  all_goals(
   refine⟨rfl,?_⟩;have :=E.RM v w b9 mE fU ny (bR.o.fW X.2.1 X.2.2 λk B=>b9.block k (E.cI k B)) (λk B=>.inl (X.2.1 k B)) (λk B=>.inl (X.2.2 k B)) C;rw[zD.1,zD.2]at this;exact this)
theorem Xm{w:World}{l:List gM}(h:∀m∈l,tL w m):∀u∈l.flatMap gR,u.oneCell'=true:=by intro u c;obtain⟨m,d,c⟩:=lg.1 c;obtain⟨a,g,e,_⟩:=bz (h m d).1;obtain⟨b,i,f,_⟩:=bz (h m d).2;exact RL e f u c
def B4 (B:Nat) (w:World) (v:Value) (l:List gM):Prop:=w.ownsRow B 251 3 v l.length (l.flatMap gR)
theorem Nq{w}{rest:List Oper}(e:M.guard=none)(s x:Operand)(f:M.op=.call {callee:=.builtin .append,args:= #[s,x],argTypes:= #[247,247]})(B:Nat)(v:Value)(l a:List gM)(g:F.eval s=v)(i:B4 B w v l)(d:Value)(j:F.eval x=d)(k:tW w gR d a)(m:∀u∈a.flatMap gR,u.oneCell'=true)(p:l.length+a.length<10000000)(n:B<=w.heap.size)(h:∀c b,B4 B b c (l++a)->w.grownBy b v.ownBlock->wpList prog I L rest (F.put M.dst c) b):wpList prog I L (M::rest) F w:=
 Lc gR 3 56 247 251 (.agg #[.bool false,.slice none 0 0,.slice none 0 0]) (by kernel_rfl) underlying247 rfl (by omega) (λ_=>rfl)
  e s x f B v l a g i d j k m (by omega) (by unfold maxLen;omega) n (λc b q o=>h c b (by unfold B4;simp_all) o)
theorem ji.src{w}{l:List gM}(h:ji w 251 3 (.slice (some (K a b)) f k) f (l.flatMap gR))(d:f=l.length):tW w gR (.slice (some (K a b)) f k) l:=by
 subst d;by_cases e:0<l.length
 .obtain⟨i,m,g,_,_,n⟩:=h.cell e;obtain⟨rfl,rfl⟩:=g;refine .inr ⟨_,_,rfl,λj u c=> ?_⟩;have :((K a b):Addr).add j=(K a (b+j)):=by unfold Addr.add;simp
  simp_all
 have :l=[]:=D7 (by omega);subst this;exact .inr ⟨_,_,rfl,λj u c=>by simp at c⟩
theorem Xn{W:World}{m:gM}{c:Value}(d:gR m=[w,y,c])(h:W.heap[a]?=some (.cells #[w,y,c] n)):tW W gR (aa a 1 1) [m]:=
 .inr ⟨_,_,rfl,λj u b=>by
  have :((H a):Addr).add j=(K a j):=by unfold Addr.add;simp_all
  rw[this];rw[jI,SY,oM,d]at b;exact No h j u b⟩
theorem aer{w:World}(h:w.ownsRow a n f m k r)(c:gr m=some b):a<=b:=by
 rcases h.2 with⟨rfl,_⟩|⟨e,g,i,rfl,d,_⟩
 .contradiction
 obtain rfl:=Xd c;exact d
theorem apL {w:World} (s:c3 w b e h d a j i) (c r:Nat) (D:c<a) (P:r<a) (aZ:c≠r) (iE:(j.ms c r).length<=12):
  O 119 #[Z b,A c,A r] w λt w'=>t=ad (A (if j.ms c r=[] then 12 else if j.sh c r=true then 10 else 0))/\j7 b a e h d i.vl w w' (DE j c r):=by
 have cr:=ag (FO s c r D P aZ);obtain⟨vZ,o5,gl,gp,_,_,_,_,U,dN,C⟩:=s.xE D P;obtain⟨q7,lG,E,pX,X⟩:=s.queue D P;rw[E]at C;have aT:=ag s;have ci:(i.vl c).ownBlock=some gl:=by rw[U];rfl
 obtain⟨cur,cH⟩:=b0 (s.hl c D) ci;have a1:=ag cH;have dG:=aU cH;clear ci cH;unfold DE
 match Q:j.ms c r with
 |[]=>
  rw[bn rfl];rw[Q]at C;simp only[sa]at C;clear s X pX E Q;go_enter func119,ntmps119;go_wp2_with fail
  refine cr.o.mono ?_;rintro t z ⟨⟨rm,rn,y,rfl⟩,rfl⟩;rw[U]at y;simp only[oO,po,tU,sb,qJ]at y;obtain⟨rfl,rfl⟩:=y;go_wp2;go_ret
  exact⟨rfl,aT.o.left (by go_grown)⟩
 |p::bH=>
  rw[a7 (by simp)];simp only;rw[Q]at C X pX E iE;simp only[iq]at C X pX E iE;obtain⟨g,R,rfl⟩:=X (by omega);obtain⟨n,S⟩:∃n,n=bH.length:=⟨_,rfl⟩;obtain⟨m,l,dM,au,hl,oD,f0,f1,f2,fK⟩:=s.first D P Q (by rw[E,S]) S
  clear fK;have mA:=ag (show i.hv c r=.slice (some (K g R)) (n+1) lG by rw[E,S]);rw[<-S]at C pX iE;have Y:l.length=n:=by rw[<-c2 (f:=gM.p),hl,S]
  have Cz:=ag Y;have dT:=ag hl;have Af:=ag (show ji w 251 3 (.slice (some (K g R)) (n+1) lG) (n+1) ((m::l).flatMap gR) by have :=s.aw c r D P;rw[dM,mA.o,iq,Y]at this;exact this)
  have bR:=ag oD;have zD:=ag (show m.p=p/\j.ms c r=p::bH from⟨au,Q⟩);have tC:=ag (show ∀B∈m::l,_ from λB F=>s.l6 c r D P B (by rw[dM];omega));obtain⟨B3,tO,rr,_,_,_⟩:=bz oD.1;obtain⟨nE,nF,n9,_,_,_⟩:=bz oD.2;rw[rr]at f1;rw[n9]at f2;obtain⟨dc,ma⟩:∃dc,dc=m.p.cF.length:=⟨_,rfl⟩;obtain⟨cx,lj⟩:∃cx,cx=m.p.oG.length:=⟨_,rfl⟩;rw[<-ma]at f1 rr;rw[<-lj]at f2 n9;have FQ:=ag (aN rr n9);have oW:¬((n:Int)+1=0):=by omega
  obtain⟨tP,xF⟩:∃tP,tP=p.q:=⟨_,rfl⟩;rw[<-xF]at f0;have Kj:=ag (show gR m=[.bool tP,.slice B3 dc tO,.slice nE cx nF] by unfold gR;rw[rr,n9,xF,au]);by_cases I:j.sh c r=true
  .rw[bn I,bn I];rw[I]at dN;clear s X pX E Q I dM au hl oD S rr n9 ma lj xF f0 f1 f2 Y iE;go_enter func119,ntmps119;go_wp2_with fail
   refine cr.o.mono ?_;rintro t z ⟨⟨rm,rn,y,rfl⟩,rfl⟩;rw[U]at y;simp only[oO,po,tU,sb,qJ]at y;obtain⟨rfl,rfl⟩:=y;go_wp2;go_ret
   exact⟨rfl,aT.o.left (by go_grown)⟩
  rw[a7 I,a7 I];have lY:j.sh c r=false:=by cases t:j.sh c r with |false=>rfl|true=>exact absurd t I
  rw[lY]at dN;have qi:=ag (show J w (w.alloc (.cells #[.bool tP,.slice B3 dc tO,.slice nE cx nF] 251)) from aV w _);have auP:w.heap.size≠gl:=by omega
  have avx:=ag C;by_cases sD:lG=1
  .subst sD;obtain rfl:n=0:=by omega
   have sA:=D7 Y;subst sA;have MD:=ag (λW=>show tW W gR (.slice (some (K g R)) 0 0) [] from .inr ⟨_,_,rfl,λv u hu=>by simp at hu⟩);clear s X E Q I dM au hl oD S rr n9 ma lj xF lY Y;go_enter func119,ntmps119;go_wp2_with fail
   refine cr.o.mono ?_;rintro t z ⟨⟨rm,rn,y,rfl⟩,rfl⟩;rw[U]at y;simp only[oO,po,tU,sb,qJ]at y;obtain⟨rfl,rfl⟩:=y;go_wp2_with (first
    |(at_builtin;(refine Nq rfl (.tmp 40) (.tmp 45) rfl z.heap.size (.slice none 0 0) [] [] rfl ?h1 (.slice (some (K g R)) 0 0) rfl ?h2 ?hw ?ax ?a8 ?_;(case h1=>exact hg _ _ _ _);(case h2=>exact MD.o _);(case hw=>simp);(case ax=>simp);(case a8=>simp);intro v2 w2 js fw;have L:=ag (qi.o.grown fw qi.o.size (λk t=>by cases t));have mr:=ag js;have M:=(No ((fw.block z.heap.size (by simp) (by simp[Value.ownBlock])).trans (bZ z _)));have gX:=M 0 _ rfl;have q1:=M 1 _ rfl;have h4:=M 2 _ rfl;replace C:=ak L.o C;have hz2:=L.o.size;have c7:=ag (bB a1.o L.o);clear js fw M;obtain⟨a2,bq,ka,ns,rj,zX⟩:=bz mr.o;subst ka;clear ns rj zX))
    |(at_builtin;(refine Nq rfl (.tmp 48) (.tmp 50) rfl z.heap.size (.slice a2 (([]:List gM)++[]).length bq) (([]:List gM)++[]) [m] (by rfl) ?h1 (aa w2.heap.size 1 1) rfl ?h2 ?hw ?ax ?a8 ?_;(case h1=>exact mr.o.alloc _);(case h2=>exact Xn Kj.o (bZ w2 _));(case hw=>exact Xm (w:=z) (λB F=>(tC.o B (by omega)).1));(case ax=>simp);(case a8=>simp;omega);intro v3 w3 FM ee;have N:=ag ((L.o.alloc hz2 _).grown ee (by simp;omega) (λk x=>(cX mr.o k x).1));have li:=ag FM;replace C:=ak N.o avx.o;have eQ:=ag (bB a1.o N.o);have Ll:=cV eQ.o (r*2+1);clear FM ee;obtain⟨a3,ce,jM,ns,rj,zX⟩:=bz li.o;subst jM;clear ns rj zX)))
   all_goals go_ret
   all_goals(
    refine⟨rfl,?_⟩;have :=aT.o.stored D P (W:=w3) (cm':=_++[m]) (I':=d) (aR.cL N.o) (ji.own (by omega) li.o) (λk x=>.inr (aer li.o x)) (λk x=>.inl x) (λk x=>x) (λB F=>by
     have h3:B∈m::[]:=by assumption
     obtain⟨av,aD,cY⟩:=tC.o B h3;exact⟨av.fW aD cY λk x=>N.o.block k (aT.o.cI k x),aD,cY⟩) U
    rw[ga,sZ,dT.o,SG,zD.o.1,dh]at this;exact this)
  have MD:=ag (λW (ah:J w W)=>show tW W gR (.slice (some (K g (R+3))) n (lG-1)) l from ji.src ((Af.o.tail (some (K g (R+3))) (λ_=>rfl)).ak λk x=>ah.block k (by obtain⟨hE,cD⟩:=(Af.o.tail (some (K g (R+3))) (λ_=>rfl)).lt x;exact aU cD)) Y.symm);clear s X E Q I dM au hl oD S rr n9 ma lj xF lY Y;go_enter func119,ntmps119;go_wp2_with fail
  refine cr.o.mono ?_;rintro t z ⟨⟨rm,rn,y,rfl⟩,rfl⟩;rw[U]at y;simp only[oO,po,tU,sb,qJ]at y;obtain⟨rfl,rfl⟩:=y;go_wp2_with (first
   |(at_builtin;(refine Nq rfl (.tmp 40) (.tmp 45) rfl z.heap.size (.slice none 0 0) [] l rfl ?h1 (.slice (some (K g (R+3))) n (lG-1)) rfl ?h2 ?hw ?ax ?a8 ?_;(case h1=>exact hg _ _ _ _);(case h2=>exact MD.o _ qi.o);(case hw=>exact Xm (w:=z) (λB F=>(tC.o B (jk _ F)).1));(case ax=>rw[Cz.o];simp;omega);(case a8=>simp);intro v2 w2 js fw;have L:=ag (qi.o.grown fw qi.o.size (λk t=>by cases t));have mr:=ag js;have M:=(No ((fw.block z.heap.size (by simp) (by simp[Value.ownBlock])).trans (bZ z _)));have gX:=M 0 _ rfl;have q1:=M 1 _ rfl;have h4:=M 2 _ rfl;replace C:=ak L.o C;have hz2:=L.o.size;have c7:=ag (bB a1.o L.o);clear js fw M;obtain⟨a2,bq,ka,ns,rj,zX⟩:=bz mr.o;subst ka;clear ns rj zX))
   |(at_builtin;(refine Nq rfl (.tmp 48) (.tmp 50) rfl z.heap.size (.slice a2 ([]++l).length bq) ([]++l) [m] (by rfl) ?h1 (aa w2.heap.size 1 1) rfl ?h2 ?hw ?ax ?a8 ?_;(case h1=>exact mr.o.alloc _);(case h2=>exact Xn Kj.o (bZ w2 _));(case hw=>exact Xm (w:=z) (λB F=>(tC.o B (by rw[fR]at F;subst F;simp)).1));(case ax=>first |(simp;done)|(have :=Cz.o;simp;omega));(case a8=>simp;omega);intro v3 w3 FM ee;have N:=ag ((L.o.alloc hz2 _).grown ee (by simp;omega) (λk x=>(cX mr.o k x).1));have li:=ag FM;replace C:=ak N.o avx.o;have eQ:=ag (bB a1.o N.o);have Ll:=cV eQ.o (r*2+1);clear FM ee;obtain⟨a3,ce,jM,ns,rj,zX⟩:=bz li.o;subst jM;clear ns rj zX)))
  all_goals go_ret
  all_goals(
   refine⟨rfl,?_⟩;have :=aT.o.stored D P (W:=w3) (cm':=_++[m]) (I':=d) (aR.cL N.o) (ji.own (by omega) li.o) (λk x=>.inr (aer li.o x)) (λk x=>.inl x) (λk x=>x) (λB F=>by
    have h3:B∈m::l:=by simpa[or_comm]using F
    obtain⟨av,aD,cY⟩:=tC.o B h3;exact⟨av.fW aD cY λk x=>N.o.block k (aT.o.cI k x),aD,cY⟩) U
   rw[ga,sZ,dT.o,SG,zD.o.1,dh]at this;exact this)
theorem apM(a b c d:Int)(W:World):(binOp .eql 258 (.agg #[A a,A b]) (.agg #[A c,A d])).run prog W=.ok (.bool (fv a b c d)) W:=by go_simp;unfold fv;by_cases e:a=c<;>by_cases f:b=d<;>simp[e,f]
theorem ld.cells{w:World}{g n cap:Nat}(h:w.ownsRow a 258 2 (aa g n cap) n (v.flatMap xy))(b:n=v.length)(i:Nat)(c:i<v.length):w.cell? (K g (i*2))=some (A (v[i].1:Int))/\w.cell? (K g (i*2+1))=some (A (v[i].2:Int)):=by
 have d:=jl (f:=xy) (k:=2) (λ_=>rfl) h b i c 0 (by omega);have e:=jl (f:=xy) (k:=2) (λ_=>rfl) h b i c 1 (by omega);simp[xy]at d e
 simp_all
theorem aes (p q r:Option Addr) (s t u x y z:Nat) (v:Value) (l:List (Nat×Nat)) (b c:Nat) (w:World) (h:ld 0 w v l):
  O 195 #[.agg #[.slice p s x,v,.slice q t y,.slice r u z],.agg #[A b,A c]] w λe D=>e=ad (.bool (decide ((b,c)∈l)))/\J w D:=by
 obtain⟨a,E,rfl,P,F,I⟩:=bz h;unfold maxLen at F;go_enter func195,ntmps195;go_wp2;go_loopw [5] (λi wr=>∃k:Nat,k<=l.length/\i=A k/\Hq (∀j (d:j<l.length),j<k->l[j]≠(b,c))/\∃n,wr=((w.alloc (.cells #[.slice p s x,.slice a l.length E,.slice q t y,.slice r u z] 225)).alloc (.cells #[A b,A c] 258)).drewN n) (λi _=>l.length-(intOf i).toNat)
 case atStart=>exact⟨0,b6 _,rfl,λ_ _ h=>absurd h (xK _),0,rfl⟩
 case round=>
  obtain⟨k,Q,rfl,B,n,rfl⟩:=hrel;by_cases C:k<l.length
  .obtain⟨g,rfl⟩:=I k C;obtain⟨L,R⟩:=ld.cells h rfl k C;have heq:=apM;have S:g<w.heap.size:=e7 w _ L;have U:g≠w.heap.size:=by omega
   have W:g≠w.heap.size+1:=by omega
   have X:(0:Int)<=(k:Int):=by simp
   have Y:(k:Int)<(l.length:Int):=by omega
   go_wp2;go_region
   cases f:fv (l[k].1:Int) (l[k].2:Int) b c
   .go_wp2;go_roundw
    case rel=>
     refine⟨k+1,by omega,by go_num,λj d oP e=> ?_,_,rfl⟩;by_cases M:j=k
     .subst M;rw[Ch,e]at f;exact f rfl
     exact B.o j d (by omega) e
    case measure=>simp[intOf];omega
   go_wp2;go_ret
   refine⟨og ?_,io ((aV _ _).alloc (by simp) _) _⟩;have m:=Gd.1 f;simp only[OC,Int.ofNat_inj]at m
   symm
   rw[Eb];have :l[k]=(b,c):=S5 m.1 m.2;rw[<-this];simp
  go_wp2;go_ret
  refine⟨og ?_,io ((aV _ _).alloc (by simp) _) _⟩
  symm
  rw[K2];intro N;obtain⟨j,d,e⟩:=mm.1 N;exact B.o j d (by omega) e
theorem aet {cp:Nat->Nat->Value} {d:Nat} {v:Value}:∀(l:List Nat) (i:Nat),l.Nodup->l[i]?=some d->(l.flatMap λc=>[cp c 0,cp c 1,cp c 2,cp c 3]).set (i*4+1) v=l.flatMap λc=>[upd cp d (upd (cp d) 1 v) c 0,upd cp d (upd (cp d) 1 v) c 1,upd cp d (upd (cp d) 1 v) c 2,upd cp d (upd (cp d) 1 v) c 3]
 |[],_,_,h=>by rfl
 |y::l,0,a,h=>by
  simp only[Aw,po]at h;subst h;have b:y∉l:=by simp_all
  have e:(l.flatMap λc=>[cp c 0,cp c 1,cp c 2,cp c 3])=l.flatMap λc=>[upd cp y (upd (cp y) 1 v) c 0,upd cp y (upd (cp y) 1 v) c 1,upd cp y (upd (cp y) 1 v) c 2,upd cp y (upd (cp y) 1 v) c 3]:=RK λj f=>by rw[ch];rintro rfl;exact b f
  simp only[jI,p5,sZ,KY,agh,SB,sY,bL];rw[e];rfl
 |y::l,i+1,a,h=>by
  have b:y≠d:=by rintro rfl;exact(oN.1 a).1 (IE h)
  rw[show(i+1)*4+1=(i*4+1)+1+1+1+1 by omega];simp only[jI,p5,sZ,KY];rw[aet (cp:=cp) (v:=v) l i (oN.1 a).2 h,ch _ _ b]
def ob (S:bP) (c:Nat) (l:List (Nat×Nat)):bP:={S with en:=upd S.en c l}
def aeu (x:ef) (c:Nat) (v:Value):ef:={x with cp:=upd x.cp c (upd (x.cp c) 1 v)}
def qD (S:bP) (c d n:Nat):bP:={S with ai:=upd S.ai c (upd (S.ai c) d n)}
theorem Ag(b j:Nat)(c:j≠1):upd C a (upd (C a) 1 m) b j=C b j:=by
 by_cases e:b=a
 .subst e;rw[bL,ch _ _ c]
 rw[ch _ _ e]
theorem c3.RN(m:c3 c l d e h b j i)(r:a<b):∃o p,i.aW=aa o b p/\b<=p/\p<=maxLen/\c.cell? (K l 2)=some (aa o b p)/\c.cell? (K o (a*4))=some (i.cp a 0)/\c.cell? (K o (a*4+1))=some (i.cp a 1)/\c.cell? (K o (a*4+2))=some (i.cp a 2)/\c.cell? (K o (a*4+3))=some (i.cp a 3):=by
 have q:=m.cm.bN.ho;obtain⟨n,p,s,v,w,x⟩:=bz q;obtain⟨o,rfl⟩:=x a r;have t:=m.cm.bN.bq;rw[s]at q t;have k:∀g u,[i.cp a 0,i.cp a 1,i.cp a 2,i.cp a 3][g]?=some u->g<4->c.cell? (K o (a*4+g))=some u:=λg u z y=>by
  have :=jl (f:=λa=>[i.cp a 0,i.cp a 1,i.cp a 2,i.cp a 3]) (k:=4) (λ_=>rfl) q (by simp) a (by simpa using r) g y
  simp_all
 exact⟨o,p,s,v,w,t,k 0 _ rfl (by omega),k 1 _ rfl (by omega),k 2 _ rfl (by omega),k 3 _ rfl (by omega)⟩
theorem c3.apN (p:c3 u f d e h b j i) (hc:a<b) {v':Value} {l':List (Nat×Nat)} (aI:aR (λk=>i.aW.ownBlock=some k\/(i.cp a 1).ownBlock=some k) u c)
  (Nk:c.ownsRow 0 225 4 i.aW b ((List.range b).flatMap λr=>[upd i.cp a (upd (i.cp a) 1 v') r 0,upd i.cp a (upd (i.cp a) 1 v') r 1,upd i.cp a (upd (i.cp a) 1 v') r 2,upd i.cp a (upd (i.cp a) 1 v') r 3]))
  (Ib:ld 0 c v' l') (dJ:∀k,v'.ownBlock=some k->(i.cp a 1).ownBlock=some k\/u.heap.size<=k):
  c3 c f d (λk=>e k\/(u.heap.size<=k/\v'.ownBlock=some k)) h b (ob j a l') (aeu i a v'):=by
 have r:=p.cm;have hCt:∀k,i.aW.ownBlock=some k->∃L,u.heap[k]?=some (.cells L 225):=λk x=>b0 r.bN.ho x
 have wb:∀l,l<b->∀k,(i.cp l 1).ownBlock=some k->∃L,u.heap[k]?=some (.cells L 258):=λl y k x=>b0 (p.en l y) x
 have stay:=λk x S Q=>aI.other k x λq=>q.elim S Q
 have other:∀{q:TypeId} {k:Nat} {L:Array Value},q≠225->q≠258->u.heap[k]?=some (.cells L q)->c.heap[k]?=u.heap[k]?:=λ{q k L} S Q F=>stay k (aU F)
  (λx=>by obtain⟨hE,X⟩:=hCt k x;exact S (cQ F X))
  (λx=>by obtain⟨hE,X⟩:=wb a hc k x;exact Q (cQ F X))
 have M:∀{q:TypeId} {k n:Nat} {v:Value} {xs:List Value},q≠225->q≠258->u.ownsRow 0 q k v n xs->c.ownsRow 0 q k v n xs:=λ{q k n v xs} S Q al=>cu al λg F=>by obtain⟨L,U⟩:=b0 al F;exact other S Q U
 have xD:yc c f d b (ob j a l').P (ob j a l').ai i.ba i.aW i.bc i.bi i.cops (upd i.cp a (upd (i.cp a) 1 v')):=by refine⟨⟨by rw[other (by decide) (by decide) r.bN.aP];exact r.bN.aP,r.bN.hN,M (by decide) (by decide) r.bN.jt,λs C=>⟨M (by decide) (by decide) (r.bN.fa s C).1,λo al=>M (by decide) (by decide) ((r.bN.fa s C).2 o al)⟩,Nk,λl y=>by rw[Ag _ _ (by decide)];exact M (by decide) (by decide) (r.bN.hH l y),r.bN.eb,r.bN.cw⟩,⟨r.ke.ar,λl B y I R=>by rw[Ag _ _ (by decide),Ag _ _ (by decide)];exact r.ke.ai l B y I R⟩,r.ar,r.cc,r.ud,r.nn,r.wW,λl y k x=>r.vz l y k (by rw[Ag _ _ (by decide)]at x;exact x),r.fold,λk x=>c0 (r.lt k x) aI.size⟩
 have Y:∀l,l≠a->upd i.cp a (upd (i.cp a) 1 v') l 1=i.cp l 1:=λl y=>by rw[ch _ _ y]
 have aD:upd i.cp a (upd (i.cp a) 1 v') a 1=v':=by rw[bL,bL]
 refine⟨xD,λl y=> ?_,λl y=> ?_,λl y=> ?_,λl w y ao=>M (by decide) (by decide) (p.qu l w y ao),M (by decide) (by decide) p.cE,λs C=>M (by decide) (by decide) (p.hl s C),λs t C W=>(p.aw s t C W).ak λg F=> ?_,p.pm,λs t C W m hm=> ?_,
  λl y k x=> ?_,λl y k x=>.inl (p.xB l y k ?_),λl y k x=>.inl (p.BZ l y k ?_),λl w y ao k x=>.inl (p.nk l w y ao k x),λk x=>.inl (p.B0 k x),λs C k x=>.inl (p.hL s C k x),λs t C W k x=>.inl (p.pW s t C W k x),?_,p.DJ,?_,?_,p.dQ,p.B2,?_,?_,λk x=>c0 (p.cI k x) aI.size,p.yP,?_⟩
 .by_cases q:l=a
  .subst q;show ld 0 c (upd i.cp l (upd (i.cp l) 1 v') l 1) (upd j.en l l' l);rw[aD,bL];exact Ib
  show ld 0 c (upd i.cp a (upd (i.cp a) 1 v') l 1) (upd j.en a l' l);rw[Y l q,ch _ _ q];refine cu (p.en l y) λg F=> ?_
  obtain⟨L,U⟩:=wb l y g F;exact stay g (aU U) (λx=>by obtain⟨hE,X⟩:=hCt g x;exact absurd (cQ U X) (by decide)) (λx=>p.B1 l a y hc q g F x)
 .show lL 0 c (upd i.cp a (upd (i.cp a) 1 v') l 2) _;rw[Ag _ _ (by decide)];exact M (by decide) (by decide) (p.df l y)
 .show c.ownsRow 0 _ 1 (upd i.cp a (upd (i.cp a) 1 v') l 3) b _;rw[Ag _ _ (by decide)];exact M (by decide) (by decide) (p.DI l y)
 .obtain⟨L,U⟩:=(p.aw s t C W).lt F;exact other (by decide) (by decide) U
 .obtain⟨S,Q,ax⟩:=p.l6 s t C W m hm;exact⟨S.fW Q ax (λk x=>stay k (p.cI k x) (λq=>p.yP k x (r.nn k q)) (λq=>p.oa k x (p.lw a hc k q))),Q,ax⟩
 .have z:(upd i.cp a (upd (i.cp a) 1 v') l 1).ownBlock=some k:=x;by_cases q:l=a
  .subst q;rw[aD]at z;rcases dJ k z with E|E
   .exact .inl (p.lw l y k E)
   exact .inr ⟨E,z⟩
  rw[Y l q]at z;exact .inl (p.lw l y k z)
 .have z:(upd i.cp a (upd (i.cp a) 1 v') l 2).ownBlock=some k:=x;rw[Ag _ _ (by decide)]at z;exact z
 .have z:(upd i.cp a (upd (i.cp a) 1 v') l 3).ownBlock=some k:=x;rw[Ag _ _ (by decide)]at z;exact z
 .intro l B y I R k x z;have N:(upd i.cp a (upd (i.cp a) 1 v') l 1).ownBlock=some k:=x;have D:(upd i.cp a (upd (i.cp a) 1 v') B 1).ownBlock=some k:=z;by_cases q:l=a
  .subst q;rw[aD]at N;rw[Y B (λq=>R q.symm)]at D;rcases dJ k N with E|E
   .exact p.B1 l B y I R k E D
   exact absurd (p.lt k (p.lw B I k D)) (by omega)
  rw[Y l q]at N;by_cases E:B=a
  .subst E;rw[aD]at D;rcases dJ k D with E|E
   .exact p.B1 l B y I R k N E
   exact absurd (p.lt k (p.lw l y k N)) (by omega)
  rw[Y B E]at D;exact p.B1 l B y I R k N D
 .intro l B y I R k x z;have N:(upd i.cp a (upd (i.cp a) 1 v') l 2).ownBlock=some k:=x;have D:(upd i.cp a (upd (i.cp a) 1 v') B 2).ownBlock=some k:=z;rw[Ag _ _ (by decide)]at N D;exact p.zO l B y I R k N D
 .intro l w B y ao I k x z;have D:(upd i.cp a (upd (i.cp a) 1 v') B 2).ownBlock=some k:=z;rw[Ag _ _ (by decide)]at D;exact p.DK l w B y ao I k x D
 .rintro k (x|⟨x,_⟩)
  .exact p.xC k x
  exact λq=>absurd (r.lt k q) (by omega)
 .rintro k (x|⟨_,x⟩)
  .exact c0 (p.lt k x) aI.size
  exact(cX Ib k x).2
 rintro k x (q|⟨q,_⟩)
 .exact p.oa k x q
 exact absurd (p.cI k x) (by omega)
theorem c3.waited (o:c3 u k d h e f j i) (q:a<f) {v':Value} {l':List (Nat×Nat)} (s:aR (λn=>(i.cp a 1).ownBlock=some n) u c) (t:ld 0 c v' l') (z:∀n,v'.ownBlock=some n->(i.cp a 1).ownBlock=some n\/u.heap.size<=n) (v:i.aW=aa b f l):
  ∃w,c3 (c.setCell (K b (a*4+1)) v') k d w e f (ob j a l') (aeu i a v')/\dp (sU d h e) (sU d w e) u (c.setCell (K b (a*4+1)) v'):=by
 have x:i.aW.ownBlock=some b:=by rw[v];rfl
 obtain⟨B,C⟩:=b0 o.cm.bN.ho x;have D:(i.cp a 1).ownBlock≠some b:=λm=>by
  obtain⟨E,F⟩:=b0 (o.en a q) m
  simp_all
 have M:c.heap[b]?=some (.cells B 225):=by rw[s.other b (aU C) D];omega
 have I:c.ownsRow 0 225 4 (aa b f l) f ((List.range f).flatMap λa=>[i.cp a 0,i.cp a 1,i.cp a 2,i.cp a 3]):=by
  rw[<-v];exact cu o.cm.bN.ho λg N=>by simp_all
 have p:aR (λn=>i.aW.ownBlock=some n\/(i.cp a 1).ownBlock=some n) u (c.setCell (K b (a*4+1)) v'):=(s.mono λn r=>.inr r).trans (aR.it v' (.inl x));have L:=o.apN q (v':=v') (l':=l') p (by
   have :=Ki I (a*4+1) v';rw[aet (cp:=i.cp) (List.range f) a agi (by rw[agj q])]at this
   simp_all) (kd t (λm=>by
    obtain⟨E,F⟩:=b0 t m
    simp_all) v') z
 refine⟨_,L,⟨p.os,p.tape,p.output,p.size,λn r y=>p.other n r λm=> ?_,?_⟩⟩
 .rcases m with m|m
  .exact y (.inl (o.cm.nn n m))
  exact y (.inr (.inl (o.lw a q n m)))
 rintro n (m|(m|m)|m)
 .exact .inl (.inl m)
 .exact .inl (.inr (.inl m))
 .omega
 exact .inl (.inr (.inr m))
theorem c3.apO{r}(n:c3 c r d e h q j i)(B:a<q)(U:b<q)(hn:k<=(j.P b).length){oV:Nat}(W:i.cp a 0=aa l q oV):c3 (c.setCell (K l b) (A k)) r d e h q (qD j a b k) i/\dp (sU d e h) (sU d e h) c (c.setCell (K l b) (A k)):=by
 have t:=n.cm;have X:(i.cp a 0).ownBlock=some l:=by rw[W];rfl
 have hF:=t.vz a B l X;obtain⟨cur,cH⟩:=b0 (t.bN.hH a B) X;have L:aR (λs=>s=l) c (c.setCell (K l b) (A k)):=aR.it _ rfl;have E:∀s,e s->(c.setCell (K l b) (A k)).heap[s]?=c.heap[s]?:=λs C=>dE λu=>n.xC s C (u▸hF)
 have M:∀s,h s->(c.setCell (K l b) (A k)).heap[s]?=c.heap[s]?:=λs C=>dE λu=>n.yP s C (u▸hF)
 have other:∀{u:TypeId} {s:Nat} {cur:Array Value},u≠3->c.heap[s]?=some (.cells cur u)->(c.setCell (K l b) (A k)).heap[s]?=c.heap[s]?:=λ{u s hE} Y z=>dE λC=>by subst C;exact Y (cQ z cH)
 have N:∀{u:TypeId} {s ir:Nat} {v:Value} {xs:List Value},u≠3->c.ownsRow 0 u s v ir xs->(c.setCell (K l b) (A k)).ownsRow 0 u s v ir xs:=λ{u s ir v xs} Y Q=>cu Q λg z=>by obtain⟨hE,rq⟩:=b0 Q z;exact other Y rq
 have cw:(c.setCell (K l b) (A k)).heap.size=c.heap.size:=by simp
 have xD:yc (c.setCell (K l b) (A k)) r d q (qD j a b k).P (qD j a b k).ai i.ba i.aW i.bc i.bi i.cops i.cp:=by
  refine⟨⟨by rw[other (by decide) t.bN.aP];exact t.bN.aP,t.bN.hN,N (by decide) t.bN.jt,λw M=>⟨N (by decide) (t.bN.fa w M).1,λo Q=>N (by decide) ((t.bN.fa w M).2 o Q)⟩,N (by decide) t.bN.ho,λx I=> ?_,?_,t.bN.cw⟩,t.ke,t.ar,t.cc,t.ud,t.nn,t.wW,t.vz,t.fold,λs C=>by rw[cw];exact t.lt s C⟩
  .by_cases u:x=a
   .subst u;have aP:=t.bN.hH x I;rw[W]at aP;have :=Ki aP b (A k);rw[W];unfold qD;simp only[bL];rw[Pv (j.ai x) (λk:Nat=>A k) b k q];exact this
   unfold qD;simp only[ch _ _ u];refine cu (t.bN.hH x I) λg z=>dE λR=> ?_
   subst R;exact t.ke.ai x a I B u (by rw[z,X])
  intro x w I D;unfold qD;simp only;by_cases u:x=a
  .subst u;rw[bL];by_cases R:w=b
   .subst R;rw[bL,<-c2 (f:=bY.p),t.ar w D];exact hn
   rw[ch _ _ R];exact t.bN.eb x w I D
  rw[ch _ _ u];exact t.bN.eb x w I D
 refine⟨⟨xD,λa B=>cu (n.en a B) λg z=>E g (n.lw a B g z),λa B=>cu (n.df a B) λg z=>E g (n.xB a B g z),λa B=>cu (n.DI a B) λg z=>E g (n.BZ a B g z),λa b B U=>cu (n.qu a b B U) λg z=>E g (n.nk a b B U g z),cu n.cE λg z=>E g (n.B0 g z),λw D=>cu (n.hl w D) λg z=>E g (n.hL w D g z),λw y D F=>(n.aw w y D F).ak λg z=>E g (n.pW w y D F g z),n.pm,λw y D F m S=>⟨(n.l6 w y D F m S).1.fW (n.l6 w y D F m S).2.1 (n.l6 w y D F m S).2.2 M,(n.l6 w y D F m S).2⟩,n.lw,n.xB,n.BZ,n.nk,n.B0,n.hL,n.pW,n.B1,n.DJ,n.zO,n.DK,n.dQ,n.B2,n.xC,λs C=>by rw[cw];exact n.lt s C,λs C=>by rw[cw];exact n.cI s C,n.yP,n.oa⟩,⟨L.os,L.tape,L.output,L.size,λs C aH=>L.other s C λu=>aH (.inl (u▸hF)),λs C=>.inl C⟩⟩
theorem aev{d:Nat->Nat}(h:c.ownsRow l 3 1 (aa k a q) a (((List.range a).map d).flatMap pU)):(c.setCell (K k f) (A b)).ownsRow l 3 1 (aa k a q) a (((List.range a).map (upd d f b)).flatMap pU):=by
 have :=Ki h f (A b);have e:∀d:Nat->Nat,((List.range a).map d).flatMap pU=(List.range a).map λi=>A (d i):=λd=>by rw[agf];exact List.map_eq_flatMap.symm
 rw[e]at this⊢;rw[Pv d (λb:Nat=>A b) f b a];omega
def Nr (S:bP) (c d i n:Nat):bP:={S with bC:=upd S.bC c (upd (S.bC c) d (upd (S.bC c d) i n))}
def Kk (S:bP) (c i n:Nat):bP:={S with df:=upd S.df c (upd (S.df c) i n)}
theorem c3.apP{x}(g:c3 c l d h e k j x)(z:b<k){i n:Nat}(L:f<k)(aO:x.yO b f=aa a k q):c3 (c.setCell (K a i) (A n)) l d h e k (Nr j b f i n) x/\dp (sU d h e) (sU d h e) c (c.setCell (K a i) (A n)):=by
 have M:(x.yO b f).ownBlock=some a:=by rw[aO];rfl
 have S:=g.nk b f z L a M;obtain⟨cur,cH⟩:=b0 (g.qu b f z L) M;have F:aR (λr=>r=a) c (c.setCell (K a i) (A n)):=aR.it _ rfl;have C:∀r,d r->(c.setCell (K a i) (A n)).heap[r]?=c.heap[r]?:=λr y=>dE λs=>g.xC r (s▸S) y
 have D:∀r,e r->(c.setCell (K a i) (A n)).heap[r]?=c.heap[r]?:=λr y=>dE λs=>g.oa r y (s▸S)
 have other:∀{s:TypeId} {r:Nat} {cur:Array Value},s≠3->c.heap[r]?=some (.cells cur s)->(c.setCell (K a i) (A n)).heap[r]?=c.heap[r]?:=λ{s r hE} U u=>dE λy=>by subst y;exact U (cQ u cH)
 have N:∀{s:TypeId} {r W:Nat} {v:Value} {X:List Value},s≠3->c.ownsRow 0 s r v W X->(c.setCell (K a i) (A n)).ownsRow 0 s r v W X:=λ{s r W v X} U I=>cu I λa u=>by obtain⟨hE,Y⟩:=b0 I u;exact other U Y
 have cw:(c.setCell (K a i) (A n)).heap.size=c.heap.size:=by simp
 have xD:yc (c.setCell (K a i) (A n)) l d k j.P j.ai x.ba x.aW x.bc x.bi x.cops x.cp:=by have p:=g.cm;refine⟨⟨?_,p.bN.hN,cu p.bN.jt (λa u=>C a (p.ud a u)),λi D=>⟨cu (p.bN.fa i D).1 (λa u=>C a (p.wW i D a u)),λo I=>cu ((p.bN.fa i D).2 o I) (λa u=>C a (p.fold i D o I a u))⟩,cu p.bN.ho (λa u=>C a (p.nn a u)),λb z=>cu (p.bN.hH b z) (λa u=>C a (p.vz b z a u)),p.bN.eb,p.bN.cw⟩,p.ke,p.ar,p.cc,p.ud,p.nn,p.wW,p.vz,p.fold,λr c9=>by rw[cw];exact p.lt r c9⟩;rw[C l p.cc];exact p.bN.aP
 refine⟨⟨xD,λb z=>N (by decide) (g.en b z),λt w=>cu (g.df t w) λQ u=>dE λs=> ?_,λb z=>N (by decide) (g.DI b z),λt E w de=> ?_,N (by decide) g.cE,λi ff=>N (by decide) (g.hl i ff),λp t B w=>(g.aw p t B w).ak λQ u=> ?_,g.pm,λp t B w m R=>⟨(g.l6 p t B w m R).1.fW (g.l6 p t B w m R).2.1 (g.l6 p t B w m R).2.2 D,(g.l6 p t B w m R).2⟩,g.lw,g.xB,g.BZ,g.nk,g.B0,g.hL,g.pW,g.B1,g.DJ,g.zO,g.DK,g.dQ,g.B2,g.xC,λr y=>by rw[cw];exact g.lt r y,λr y=>by rw[cw];exact g.cI r y,g.yP,g.oa⟩,⟨F.os,F.tape,F.output,F.size,λr y aH=>F.other r y λs=>aH (.inr (.inl (s▸S))),λr y=>.inl y⟩⟩
 .subst s;exact g.DK b f t z L w Q M u
 .unfold Nr;simp only;by_cases s:t=b/\E=f
  .obtain⟨rfl,rfl⟩:=s;rw[bL,bL];have aP:=g.qu t E w de;unfold lL at aP⊢;rw[c2,ww,aO]at aP⊢;exact aev aP
  have e':upd j.bC b (upd (j.bC b) f (upd (j.bC b f) i n)) t E=j.bC t E:=by
   by_cases av:t=b
   .subst av;rw[bL,ch _ _ λaD=>s ⟨rfl,aD⟩]
   rw[ch _ _ av]
  rw[e'];refine cu (g.qu t E w de) λQ u=>dE λaD=> ?_
  subst aD;exact g.DJ t E b f w de z L (atS.2 λcY=>s ⟨Ze.1 cY.1,Ze.1 cY.2⟩) Q u M
 obtain⟨hE,Y⟩:=(g.aw p t B w).lt u;exact other (by decide) Y
theorem c3.apQ{x}(g:c3 c k d h e f j x)(y:b<f){i n:Nat}(Y:x.cp b 2=aa a f l):c3 (c.setCell (K a i) (A n)) k d h e f (Kk j b i n) x/\dp (sU d h e) (sU d h e) c (c.setCell (K a i) (A n)):=by
 have F:(x.cp b 2).ownBlock=some a:=by rw[Y];rfl
 have N:=g.xB b y a F;obtain⟨cur,cH⟩:=b0 (g.df b y) F;have D:aR (λq=>q=a) c (c.setCell (K a i) (A n)):=aR.it _ rfl;have B:∀q,d q->(c.setCell (K a i) (A n)).heap[q]?=c.heap[q]?:=λq w=>dE λr=>g.xC q (r▸N) w
 have C:∀q,e q->(c.setCell (K a i) (A n)).heap[q]?=c.heap[q]?:=λq w=>dE λr=>g.oa q w (r▸N)
 have other:∀{r:TypeId} {q:Nat} {cur:Array Value},r≠3->c.heap[q]?=some (.cells cur r)->(c.setCell (K a i) (A n)).heap[q]?=c.heap[q]?:=λ{r q hE} Q t=>dE λw=>by subst w;exact Q (cQ t cH)
 have I:∀{r:TypeId} {q R:Nat} {v:Value} {S:List Value},r≠3->c.ownsRow 0 r q v R S->(c.setCell (K a i) (A n)).ownsRow 0 r q v R S:=λ{r q R v S} Q E=>cu E λa t=>by obtain⟨hE,U⟩:=b0 E t;exact other Q U
 have W:(c.setCell (K a i) (A n)).heap.size=c.heap.size:=by simp
 have xD:yc (c.setCell (K a i) (A n)) k d f j.P j.ai x.ba x.aW x.bc x.bi x.cops x.cp:=by have p:=g.cm;refine⟨⟨?_,p.bN.hN,cu p.bN.jt (λa t=>B a (p.ud a t)),λi C=>⟨cu (p.bN.fa i C).1 (λa t=>B a (p.wW i C a t)),λo E=>cu ((p.bN.fa i C).2 o E) (λa t=>B a (p.fold i C o E a t))⟩,cu p.bN.ho (λa t=>B a (p.nn a t)),λb y=>cu (p.bN.hH b y) (λa t=>B a (p.vz b y a t)),p.bN.eb,p.bN.cw⟩,p.ke,p.ar,p.cc,p.ud,p.nn,p.wW,p.vz,p.fold,λq c9=>by rw[W];exact p.lt q c9⟩;rw[B k p.cc];exact p.bN.aP
 refine⟨⟨xD,λb y=>I (by decide) (g.en b y),λs u=> ?_,λb y=>I (by decide) (g.DI b y),λs cz u de=>cu (g.qu s cz u de) λL t=>dE λr=> ?_,I (by decide) g.cE,λi ff=>I (by decide) (g.hl i ff),λp s z u=>(g.aw p s z u).ak λL t=> ?_,g.pm,λp s z u m M=>⟨(g.l6 p s z u m M).1.fW (g.l6 p s z u m M).2.1 (g.l6 p s z u m M).2.2 C,(g.l6 p s z u m M).2⟩,g.lw,g.xB,g.BZ,g.nk,g.B0,g.hL,g.pW,g.B1,g.DJ,g.zO,g.DK,g.dQ,g.B2,g.xC,λq w=>by rw[W];exact g.lt q w,λq w=>by rw[W];exact g.cI q w,g.yP,g.oa⟩,⟨D.os,D.tape,D.output,D.size,λq w aH=>D.other q w λr=>aH (.inr (.inl (r▸N))),λq w=>.inl w⟩⟩
 .unfold Kk;simp only;by_cases r:s=b
  .subst r;rw[bL];have X:=g.df s u;unfold lL at X⊢;rw[c2,ww,Y]at X⊢;exact aev X
  rw[ch _ _ r];refine cu (g.df s u) λL t=>dE λaD=> ?_
  subst aD;exact g.zO s b u y r L t F
 .subst r;exact g.DK s cz b u de y L t F
 obtain⟨hE,U⟩:=(g.aw p s z u).lt t;exact other (by decide) U
def pY (N:Nat) (P:Nat->List bT) (l:List (Nat×Nat)):Prop:=l.Nodup/\∀f∈l,f.1<N/\f.2<=(P f.1).length
theorem pY.len{N P l}(h:pY N P l)(d:N<=4)(a:∀i,i<N->(P i).length<=60):l.length<=244:=by
 have :=Q9 (m:=(List.range 4).flatMap λi=>(List.range 61).map λj=>(i,j)) h.1 λf b=>by obtain⟨c,e⟩:=h.2 f b;have :=a f.1 c;rw[lg];exact⟨f.1,rA.2 (by omega),dF.2 ⟨f.2,rA.2 (by omega),rfl⟩⟩
 exact this
theorem pY.add{P l}(h:pY b P l)(i:Nat->Nat){f:Nat×Nat}(j:f.1<b/\f.2<=(P f.1).length):pY b P (Kd i l f):=by
 unfold Kd;split
 .rename_i e
  refine⟨nI.2 ⟨h.1,by simp,λa k c m n=> ?_⟩,λg d=> ?_⟩
  .simp_all
  rcases dZ.1 d with d|d
  .exact h.2 g d
  simp_all
 omega
theorem pY.RO{N:Nat}{P:Nat->List bT}(a:Nat->Nat):∀{l b:List (Nat×Nat)},pY N P b->(∀f∈l,f.1<N/\f.2<=(P f.1).length)->pY N P (n7 a b l)
 |[],_,h,_=>h
 |f::l,b,h,c=>pY.RO a (l:=l) (h.add a (c f (by simp))) λg d=>c g (by simp[d])
theorem apR{b:Nat->Nat}{c:List (Nat×Nat)}(d:a<v.length):n7 b c (v.take (a+1))=Kd b (n7 b c (v.take a)) v[a]:=by rw[lx d];unfold n7;rw[Ax];rfl
theorem Xo(h:(b,a+1)∉v):∀f,runN v b a f=a
 |0=>rfl
 |f+1=>by unfold runN;simp_all
theorem aew(h:(a,b+1)∈v):runN v a b (f+1)=runN v a (b+1) f:=by
 conv=>lhs;unfold runN
 simp_all
theorem aex{a:List (Nat×Nat)}{d b:Nat}(h:∀n,(d,n)∈a->n<=b):∀f n,n<=b->runN a d n f<=b
 |0,n,c=>c
 |f+1,n,c=>by
  by_cases e:(d,n+1)∈a
  .rw[aew e];exact aex h f (n+1) (h _ e)
  rw[Xo e];exact c
structure r3 (c:Nat) (F L fL I:Nat->Prop) (x x':ef) (w w':World):Prop where
 aW:x'.aW=x.aW
 bw:x'.cp c 0=x.cp c 0
 vl:x'.vl=x.vl
 pM:dp (sU F L I) (sU F fL I) w w'
 Ah:∀k,I k->k<w.heap.size->w'.heap[k]?=w.heap[k]?
theorem r3.dn{x:ef}{w:World}(b:J w c):r3 a e d d h x x w c:=⟨rfl,rfl,rfl,dp.cL b,λk _ f=>b.block k f⟩
theorem r3.trans{c F L d e I x f g w h i}(a:r3 c F L d I x f w h)(b:r3 c F d e I f g h i):r3 c F L e I x g w i:=
 ⟨b.aW.trans a.aW,b.bw.trans a.bw,b.vl.trans a.vl,a.pM.trans b.pM,λk j l=>(b.Ah k j (c0 l a.pM.size)).trans (a.Ah k j l)⟩
theorem c3.aey (n:c3 c k d h e f j i) (q:a<f) (r:aR (λg=>(i.cp a 1).ownBlock=some g) c u) (x:ld 0 u m v) (y:∀g,m.ownBlock=some g->(i.cp a 1).ownBlock=some g\/c.heap.size<=g) (s:i.aW=aa b f l):
  ∃p t,c3 (u.setCell (K b (a*4+1)) m) k d p e f (ob j a v) t/\r3 a d h p e i t c (u.setCell (K b (a*4+1)) m):=by
 obtain⟨p,z,B⟩:=n.waited q r x y s;refine⟨p,_,z,rfl,Ag _ _ (by decide),rfl,B,λg w C=> ?_⟩;have D:i.aW.ownBlock=some b:=by rw[s];rfl
 have E:g≠b:=λo=>n.yP g w (o▸n.cm.nn b D)
 rw[dE E];exact r.other g C λo=>n.oa g w (n.lw a q g o)
theorem c3.apS(g:c3 c l e d h f j i)(p:a<f){n:Nat}(s:k<f)(t:n<=(j.P k).length)(r:i.cp a 0=aa b f q):c3 (c.setCell (K b k) (A n)) l e d h f (qD j a k n) i/\r3 a e d d h i i c (c.setCell (K b k) (A n)):=by
 obtain⟨u,v⟩:=g.apO p s t r;have w:(i.cp a 0).ownBlock=some b:=by rw[r];rfl
 exact⟨u,rfl,rfl,rfl,v,λm x y=>dE λ(o:m=b)=>g.yP m x (o▸g.cm.vz a p b w)⟩
theorem c3.B5(m:c3 c l d e h b j i)(n:a<b):∃o p t y u v w q x r,i.aW=aa o b p/\b<=p/\c.cell? (K l 2)=some (aa o b p)/\c.cell? (K o (a*4))=some (aa t b y)/\c.cell? (K o (a*4+1))=some (.slice u (j.en a).length v)/\c.cell? (K o (a*4+2))=some (aa w b q)/\c.cell? (K o (a*4+3))=some (aa x b r)/\
  i.cp a 0=aa t b y/\i.cp a 1=.slice u (j.en a).length v/\i.cp a 2=aa w b q/\i.cp a 3=aa x b r/\b<=y/\b<=q/\b<=r/\(∀g,g<b->c.cell? (K t g)=some (A (j.ai a g)))/\(∀g,g<b->c.cell? (K w g)=some (A (j.df a g)))/\(∀g,g<b->c.cell? (K x g)=some (i.yO a g))/\(∃z,c.heap[o]?=some (.cells z 225))/\(∃z,c.heap[t]?=some (.cells z 3)):=by
 obtain⟨o,p,E,R,_,k,F,I,L,M⟩:=m.RN n;obtain⟨S,U,B,W,X⟩:=m.cm.bN.Gx n;obtain⟨u,v,N,_⟩:=bz (m.en a n);have s:=m.df a n;unfold lL at s;rw[c2,ww]at s;obtain⟨w,q,P,Y,_,f2⟩:=bz s;obtain⟨g2,rfl⟩:=f2 a n;obtain⟨x,r,C,JY,_,f3⟩:=bz (m.DI a n);obtain⟨g3,rfl⟩:=f3 a n;rw[B]at F;rw[N]at I;rw[P]at L s;rw[C]at M;have Q:=m.DI a n;rw[C]at Q;refine⟨o,p,S,U,u,v,g2,q,g3,r,E,R,k,F,I,L,M,B,N,P,C,W,Y,JY,X,λg D=> ?_,λg D=> ?_,b0 m.cm.bN.ho (by rw[E];rfl),b0 (m.cm.bN.hH a n) (by rw[B];rfl)⟩
 .have :=jl (f:=pU) (k:=1) (λ_=>rfl) s (by simp) g (by simpa using D) 0 (by omega);simpa[pU]using this
 have :=Q.cellAt g (by omega);rw[this];simp[D]
