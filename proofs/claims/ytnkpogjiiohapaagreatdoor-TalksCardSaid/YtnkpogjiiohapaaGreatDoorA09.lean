/- Our own text. -/
import Derived.Deep.DeepCutAuto
import Derived.Test.YtnkpogjiiohapaaGreatDoorA08
set_option linter.unusedSimpArgs false
set_option linter.unusedVariables false
set_option maxRecDepth 1000000
set_option maxHeartbeats 1600000
namespace Go.Proofs.YtnkpogjiiohapaaGreatDoor
open Go.RowKit Tryz
variable {a d h:Nat}{b r:World}{e:List (PId×dS)}{f:List (PId×eI)}{i:Nat->Prop}{j:TypeId}{k q s u:Int}{l:List MapEntry}{m v w y z:Value}{n:dS}
def jZ (a:List (PId×dS)):PId->List PId->Prop
 |x,[]=>x=(0,0)
 |x,y::L=>x=y/\y≠(0,0)/\∃e,bq y a=some e/\jZ a e.next L
def p9 (a:List (PId×dS)) (y:PId):Bool:=match bq y a with |some e=>decide (0<e.aB.length)|none=>false
theorem jZ.unique{c:List (PId×dS)}:∀{x:PId} {R b:List PId},jZ c x R->jZ c x b->R=b
 |_,[],[],_,_=>rfl
 |_,[],y::b,h,a=>absurd (a.1.symm.trans h) a.2.1
 |_,y::R,[],h,a=>absurd (h.1.symm.trans a) h.2.1
 |x,y::R,f::b,h,a=>by
  obtain⟨g,_,e,i,j⟩:=h;obtain⟨k,_,n,d,l⟩:=a;have m:y=f:=g.symm.trans k;subst m;rw[i]at d;cases d;rw[jZ.unique j l]
theorem adT(a:List (PId×dS)):∃e:PId->Nat,∀x R,jZ a x R->e x=R.length:=by
 have c:∀x,∃n:Nat,∀R,jZ a x R->n=R.length:=fun x=>by
  by_cases h:∃R,jZ a x R
  ·obtain⟨R,h⟩:=h
   exact⟨R.length,fun d b=>by rw[jZ.unique h b]⟩
  ·exact⟨0,fun d b=>absurd ⟨d,b⟩ h⟩
 exact⟨fun x=>Classical.choose (c x),fun x=>Classical.choose_spec (c x)⟩
def G0 (w:World):Value->PId
 |.pointer (some a)=>(intOf ((w.cell? (H a.block)).getD undef),intOf ((w.cell? (K a.block 1)).getD undef))
 |_=>(0,0)
theorem UU{x:PId}(h:b.heap[a]?=some (.cells #[A x.1,A x.2] 36 (0,0))):G0 b (Z a)=x:=by
 simp[G0,World.cell?,h,intOf]
theorem adU(a:Value)(m:Value)(b c:Int)(W:World):(Instr.field 170 (.agg #[a,m,A b,A c]) 2).run prog W=.ok (.agg #[A b,A c]) W:=by kernel_rfl
theorem adV(a b m:Value)(c d:Int)(W:World):(Instr.field 176 (.agg #[a,b,A c,A d,m]) 1).run prog W=.ok (.agg #[A c,A d]) W:=by kernel_rfl
theorem UW(h:b.heap[a]?=some (.cells #[A s,A u] 36 (0,0))):((b.setCell (H a) (A k)).setCell (K a 1) (A q)).drew.heap[a]?=some (.cells #[A k,A q] 36 (0,0)):=by
 have c:=aM h;obtain⟨_,d⟩:=ao1.1 h;show((b.setCell (H a) (A k)).setCell (K a 1) (A q)).heap[a]?=_;simp[World.setCell,c,ap2,d]
theorem UX{L done rest:List PId}(g:done++(s,u)::rest=L)(d:b.heap.size<=a)(h:r.heap[a]?=some (.cells #[A s,A u] 36 (0,0)))(i:jZ e (k,q) rest)(j:gu b.heap.size r m ((done++[(s,u)]).filter (p9 e)))(f:m.ownBlock≠some a)(l:J b r):
  ∃done rest y c,done++rest=L/\Z a=Z c/\b.heap.size<=c/\((r.setCell (H a) (A k)).setCell (K a 1) (A q)).drew.heap[c]?=some (.cells #[A y.1,A y.2] 36 (0,0))/\
   jZ e y rest/\gu b.heap.size ((r.setCell (H a) (A k)).setCell (K a 1) (A q)).drew m (done.filter (p9 e))/\m.ownBlock≠some c/\J b ((r.setCell (H a) (A k)).setCell (K a 1) (A q)).drew:=
 ⟨done++[(s,u)],rest,(k,q),a,by simpa using g,rfl,d,UW h,i,arp (iW (iW j f _) f _),f,((l.setCell d _).setCell d _).drew⟩
theorem UY{rest}{wr:World}{c:PId->Nat}(f:∀x R,jZ e x R->c x=R.length)(h:bq (k,q) e=some n)(i:n.next=(s,u))(j:(k,q)≠((0:Int),(0:Int)))(g:jZ e (s,u) rest)(l:wr.heap[d]?=some (.cells #[A k,A q] 36 (0,0)))(m:b.heap[a]?=some (.cells #[A k,A q] 36 (0,0))):
  c (G0 ((b.setCell (H a) (A s)).setCell (K a 1) (A u)).drew (Z a))<c (G0 wr (Z d)):=by
 rw[UU (x:=(s,u)) (UW m),UU (x:=(k,q)) l,f _ _ g];have :jZ e (k,q) ((k,q)::rest):=⟨rfl,j,n,h,by rw[i];exact g⟩;rw[f _ _ this];simp
theorem U0{aA be L}(h:cu b d aA be f e)(z B:Int){U:eI}(b3:bq (z,B) f=some U)(hl:U.list=true)(mK:jZ e U.first L)(cl:L.length<=10000):
  O 57 #[Z d,.agg #[A z,A B]] b fun c w'=>∃u,c=.returned u/\gu b.heap.size w' u (L.filter (p9 e))/\J b w':=by
 have a1:=aa ((aoQ b.heap.size b).alloc (aoP _) (.cells #[A z,A B] 36));have b8:=aa (yL (h.af a1.o) z B);have ao:nh (z,B) f=true:=by unfold nh;rw[b3];exact hl
 rw[ao]at b8;have M:=aa (fun W (ab:J b W)=>(h.af ab).vP z B false);rw[b3]at M;have dj:=aa (fun W (ab:J b W)=>(h.af ab).bc);obtain⟨CF,U1⟩:=adT e;have U2:=aa U1;clear U1;obtain⟨ol,xx,lU,⟨f1,f2⟩⟩:=U;simp only at hl mK;have p2:=aa mK;clear mK b3 ao hl;simp only[apw,apr,apG,if_false,pn]at M;have r:=aa h;clear h;go_enter func57,ntmps57;go_wp2_with fail
 refine b8.o.mono ?_;rintro c C ⟨rfl,X⟩;have cr:=af (a:=(V b 0)) (v:=A z) X (by simp[go_sem]);have bx:=af (a:=(V b 1)) (v:=A B) X (by simp[go_sem]);have t:=aa (a1.o.trans (X.mono a1.o.size));clear X;have F:=dj.o _ t.o;have dz:=M.o _ t.o;have cy:=M.o _ t.o.drew;have yS:=M.o _ (t.o.alloc t.o.size (.cells #[A 0,A 0] 36)).drew;have KK:=adU;have hz1:=t.o.size;have gP:=(r.o.af t.o).lt;have pZ:b.heap.size<C.heap.size:=ao4 C _ cr;go_wp2;go_cut [6] (fun p wc=>p=Z C.heap.size/\wc=(C.alloc (.cells #[A f1,A f2] 36)).drew)
 case first =>
  go_region
  all_goals(go_wp2_with fail;go_meet)
  all_goals exact⟨rfl,rfl⟩
 case rest=>
  obtain⟨rfl,jX⟩:=hcut;have k8:=aa (show J b wc by rw[jX];exact(t.o.alloc hz1 _).drew);have sI:=aa (show wc.heap[C.heap.size]?=some (.cells #[A f1,A f2] 36 (0,0)) by rw[jX];exact bL C _);clear jX cr bx F dz cy yS KK;go_wp2;go_loopw [5,6] (fun u p wr=>∃done rest y s,done++rest=L/\p=Z s/\b.heap.size<=s/\wr.heap[s]?=some (.cells #[A y.1,A y.2] 36 (0,0))/\jZ e y rest/\gu b.heap.size wr u (done.filter (p9 e))/\u.ownBlock≠some s/\J b wr) (fun _ p wr=>CF (G0 wr p))
  case atStart=>exact⟨[],L,(f1,f2),C.heap.size,rfl,rfl,hz1,sI.o,p2.o,ao9 _ _ _ _,by simp[Value.ownBlock],k8.o⟩
  case round=>
   obtain⟨done,rest,⟨g,i⟩,s,Y,rfl,yP,iX,U3,bm,br,I⟩:=hrel;simp only at iX;have D:=aa iX;clear iX;have F:=(bh D.o).1;have a6:=(bh D.o).2;have cP:=aM D.o;have heq:=Ak;have cL:=aa bm;clear bm;cases rest with
   |nil=>
    have az:(g,i)=((0:Int),(0:Int)):=U3;injection az with uL qa;subst uL;subst qa;go_wp2;go_ret
    have ai:done=L:=by simpa using Y
    exact⟨_,rfl,by rw[<-ai];exact cL.o,I⟩
   |cons x rest=>
    obtain⟨al,uM,el,N,pq⟩:=U3;subst al;obtain⟨q,⟨c4,cm⟩,mL,CG⟩:=el;simp only at pq;have amY:et g i 0 0=false:=by rw[yx];exact uM
    have KC:=(r.o.af I).a6;have kA:=(r.o.af I.drew).sB g i false;rw[N]at kA;simp only[apw,apr,apG,if_false,oI]at kA;have sJ:=Ov ((r.o.aH _ (fQ N)).af I.drew) (ty:=3);simp only at sJ;have KG:=GZ;have fn:=adV;have U4:p9 e (g,i)=decide (0<CG.length):=by unfold p9;rw[N]
    have uN:=aa U4;clear U4;have pr:=aa pq;clear pq;have nk:=aa N;clear N;have gD:=aa I;clear I;have sj:=gD.o.size;have U5:=(r.o.af gD.o).lt;by_cases ad:0<CG.length
    ·go_wp2
     go_region
     obtain⟨j,k⟩:∃j,j=wr.drew:=⟨_,rfl⟩;rw[<-k];have w:=aa (show j.heap[s]?=some (.cells #[A g,A i] 36 (0,0)) by rw[k];exact D.o);have P:=aa (show gu b.heap.size j u5 (done.filter (p9 e)) by rw[k];exact arp cL.o);have Q:=aa (show J b j by rw[k];exact gD.o.drew);have amZ:(done.filter (p9 e)).length<=10000:=by
      have h1:=apK (p9 e) done;have h2:done.length<=L.length:=by rw[<-Y,aoW];omega
      omega
     clear k kA sJ KC;replace F:=(bh w.o).1;replace a6:=(bh w.o).2;have cP:=aM w.o;have KL:=Q.o.size;go_wp2_with (at_builtin;go_must (refine Nl rfl (.tmp 37) (.tmp 39) rfl b.heap.size _ (done.filter (p9 e)) rfl ?h1 j.heap.size 1 g i rfl ?h2 ?ak ?aL ?bW ?_;(case h1=>exact P.o.alloc _);(case h2=>simp[go_sem]);(case ak=>simp[go_sem]);(case aL=>omega);(case bW=>simp;omega);intro v' R fv e1;have dD:=aa (show R.heap[s]?=some (.cells #[A g,A i] 36 (0,0)) from(e1.block s (by simp;omega) (fun c=>br c.symm)).trans (mi w.o));have bf:=aa (gu.below (P.o.alloc _) (Q.o.alloc KL _) (by simp;omega) e1);clear e1;have rr:=aa fv;clear fv;have a0:=(bh dD.o).1;have b1:=(bh dD.o).2;have ac:=(r.o.af bf.o).a6))
     obtain⟨l,m⟩:∃l,l=R.alloc (.cells #[A g,A i] 36):=⟨_,rfl⟩;rw[<-m];have E:=aa (show J b l by rw[m];exact bf.o.alloc bf.o.size _);have n:=aa (show l.heap[R.heap.size]?=some (.cells #[A g,A i] 36 (0,0)) by rw[m];exact bL R _);have qb:=aa (show gu b.heap.size l v' (done.filter (p9 e)++[(g,i)]) by rw[m];exact rr.o.alloc _);have kp:=aa (show v'.ownBlock≠some R.heap.size from fun c=>by have :=(aoT rr.o _ c).2;omega);have s0:=(bh n.o).1;have s1:=(bh n.o).2;have KM:=cS n.o;have xC:=(r.o.af E.o).a6;have S:=(r.o.af E.o.drew).sB g i false;rw[nk.o]at S;simp only[apw,apr,apG,if_false,oI]at S;have hzz:=bf.o.size;clear m a0 b1 ac F a6;go_region
     all_goals(try go_wp2)
     all_goals go_roundw
     all_goals first
      |exact UX Y hzz n.o pr.o (by rw[aqu,show[(g,i)].filter (p9 e)=[(g,i)] by simp[uN.o,ad]];exact qb.o) kp.o E.o
      |exact UY U2.o nk.o rfl uM pr.o D.o n.o
    ·go_wp2
     go_region
     obtain⟨j,k⟩:∃j,j=wr.drew:=⟨_,rfl⟩;rw[<-k];have w:=aa (show j.heap[s]?=some (.cells #[A g,A i] 36 (0,0)) by rw[k];exact D.o);have P:=aa (show gu b.heap.size j u5 (done.filter (p9 e)) by rw[k];exact arp cL.o);have Q:=aa (show J b j by rw[k];exact gD.o.drew);clear k kA sJ KC;replace F:=(bh w.o).1;replace a6:=(bh w.o).2;have cP:=aM w.o;have KL:=Q.o.size;go_wp2;obtain⟨l,m⟩:∃l,l=j.alloc (.cells #[A g,A i] 36):=⟨_,rfl⟩;rw[<-m];have E:=aa (show J b l by rw[m];exact Q.o.alloc KL _);have n:=aa (show l.heap[j.heap.size]?=some (.cells #[A g,A i] 36 (0,0)) by rw[m];exact bL j _);have qb:=aa (show gu b.heap.size l u5 (done.filter (p9 e)) by rw[m];exact P.o.alloc _);have kp:=aa (show u5.ownBlock≠some j.heap.size from fun c=>by have :=(aoT P.o _ c).2;omega);have s0:=(bh n.o).1;have s1:=(bh n.o).2;have KM:=cS n.o;have xC:=(r.o.af E.o).a6;have S:=(r.o.af E.o.drew).sB g i false;rw[nk.o]at S;simp only[apw,apr,apG,if_false,oI]at S;clear m F a6;go_region
     all_goals(try go_wp2)
     all_goals go_roundw
     all_goals first
      |exact UX Y KL n.o pr.o (by rw[aqu,show[(g,i)].filter (p9 e)=[] by simp[uN.o,ad],apu];exact qb.o) kp.o E.o
      |exact UY U2.o nk.o rfl uM pr.o D.o n.o
structure fR (aA be:Nat) (R:Nat->Prop) (os:List (PId×eI)) (a7:List (PId×dS)):Prop where
 ne:aA≠be
 ro:¬R aA
 ES:¬R be
 fE:∀p∈os,∀b,p.2.fE=some b->R b
 ij:∀p∈os,∀k∈p.2.ks,∀b,k.2.v=some b->R b
 gr:∀p∈a7,∀b,p.2.v=some b->R b
theorem fR.mono{R}(h:fR a d R f e)(j:∀k,R k->i k)(l:¬i a)(m:¬i d):fR a d i f e:=
 ⟨h.ne,l,m,fun p c b g=>j b (h.fE p c b g),fun p c k n b g=>j b (h.ij p c k n b g),fun p c b g=>j b (h.gr p c b g)⟩
structure aP (S:Nat->Prop) (w w':World):Prop where
 os:w'.os=w.os
 tape:w'.tape=w.tape
 output:w'.output=w.output
 size:w.heap.size<=w'.heap.size
 other:∀k,k<w.heap.size->¬S k->w'.heap[k]?=w.heap[k]?
theorem aP.cQ{S:Nat->Prop}{w w':World}(h:J w w'):aP S w w':=⟨h.os,h.tape,h.output,h.size,fun k a _=>h.block k a⟩
theorem aP.trans{S a b c}(h:aP S a b)(k:aP S b c):aP S a c:=
 ⟨k.os.trans h.os,k.tape.trans h.tape,k.output.trans h.output,aoS h.size k.size,fun i d e=>by rw[k.other i (aoV d h.size) e,h.other i d e]⟩
theorem aP.mono{S w w'}{S':Nat->Prop}(h:aP S w w')(a:∀k,S k->S' k):aP S' w w':=⟨h.os,h.tape,h.output,h.size,fun k b c=>h.other k b (fun d=>c (a k d))⟩
theorem aP.put{S:Nat->Prop}(o:Obj)(c:S a):aP S b (putObj b a o):=
 ⟨rfl,rfl,rfl,by simp[putObj],fun k _ d=>tA (fun e=>d (e▸c))⟩
theorem isMap.gE {κ ν:Type} {c:κ->Value} {e:ν->Value} {m:List (κ×ν)} {f:Array MapEntry} (h:isMap c e b a m f d) (g:r.heap[a]?=b.heap[a]?):isMap c e r a m f d:=⟨by rw[g];exact h.blk,h.mD,h.nodup,h.old⟩
theorem iN.gE{w v c}{a:World}(h:iN w v c)(d:∀b,v=some b->a.heap[b]?=w.heap[b]?):iN a v c:=
 h.imp id fun⟨b,f,g,e,i⟩=>⟨b,f,g,e,i.gE (d b e)⟩
theorem rF.gE{w v c}{a:World}(h:rF w v c)(f:∀b,v=some b->a.heap[b]?=w.heap[b]?)(g:∀k∈c,∀b,k.2.v=some b->a.heap[b]?=w.heap[b]?):rF a v c:=
 ⟨h.1.imp id fun⟨b,i,j,e,l⟩=>⟨b,i,j,e,l.gE (f b e)⟩,fun p d=>(h.2 p d).gE (g p d)⟩
theorem og {κ ν:Type} [DecidableEq κ] {x:κ} {v:ν}:∀{m:List (κ×ν)} {p:κ×ν},p∈cv x v m->p∈m\/p=(x,v)
 |[],p,h=>by simp[cv]at h;exact .inr h
 |q::m,p,h=>by
  unfold cv at h;split at h
  ·rcases ao3.1 h with h|h
   ·exact .inr h
   ·exact .inl (apa _ h)
  ·rcases ao3.1 h with h|h
   ·exact .inl (h▸ao6)
   ·rcases og h with h|h
    ·exact .inl (apa _ h)
    ·exact .inr h
theorem cu.CH{t}(g:cu b h a d f t)(m:fR a d i f t)(x:PId)(o:eI)(n:rF b o.fE o.ks)(y:∀c,o.fE=some c->i c)(z:∀k∈o.ks,∀c,k.2.v=some c->i c):
  ∃q r,(Instr.mapUpdate 171 (.map (some a)) (cX x) (pn o)).run prog b=.ok () (putObj b a (.map q r))/\cu (putObj b a (.map q r)) h a d (cv x o f) t/\fR a d i (cv x o f) t:=by
 obtain⟨M,N,B⟩:=g.ae;obtain⟨D,E,F⟩:=g.he;obtain⟨q,r,I,L⟩:=xc xd B underlying171 x o;have w:∀k,k≠a->(putObj b a (.map q r)).heap[k]?=b.heap[k]?:=fun k n=>tA n
 have s:∀k,i k->(putObj b a (.map q r)).heap[k]?=b.heap[k]?:=fun k n=>w k (fun e=>m.ro (e▸n))
 refine⟨q,r,I,⟨?_,⟨q,r,L⟩,⟨D,E,F.gE (w d (ao5 m.ne))⟩,?_,?_⟩,⟨m.ne,m.ro,m.ES,?_,?_,m.gr⟩⟩
 ·rw[w h (fun e=>by subst e;have C:=g.ai;rw[B.blk]at C;cases C)];exact g.ai
 ·intro p j
  rcases og j with j|rfl
  ·exact(g.hk p j).gE (fun c l=>s c (m.fE p j c l)) (fun k n c l=>s c (m.ij p j k n c l))
  ·exact n.gE (fun c l=>s c (y c l)) (fun k u c l=>s c (z k u c l))
 ·intro p j
  exact(g.aH p j).gE (fun c l=>s c (m.gr p j c l))
 ·intro p j c l
  rcases og j with j|rfl
  ·exact m.fE p j c l
  ·exact y c l
 ·intro p j k u c l
  rcases og j with j|rfl
  ·exact m.ij p j k u c l
  ·exact z k u c l
theorem cu.yT{r}(g:cu b h d a f r)(l:fR d a i f r)(x:PId)(e:dS)(z:iN b e.v e.aB)(u:∀c,e.v=some c->i c):
  ∃n o,(Instr.mapUpdate 172 (.map (some a)) (cX x) (oI e)).run prog b=.ok () (putObj b a (.map n o))/\cu (putObj b a (.map n o)) h d a f (cv x e r)/\fR d a i f (cv x e r):=by
 obtain⟨B,C,D⟩:=g.ae;obtain⟨I,L,w⟩:=g.he;obtain⟨n,o,E,F⟩:=xc xd w underlying172 x e;have t:∀k,k≠a->(putObj b a (.map n o)).heap[k]?=b.heap[k]?:=fun k q=>tA q
 have s:∀k,i k->(putObj b a (.map n o)).heap[k]?=b.heap[k]?:=fun k q=>t k (fun e=>l.ES (e▸q))
 refine⟨n,o,E,⟨?_,⟨B,C,D.gE (t d l.ne)⟩,⟨n,o,F⟩,?_,?_⟩,⟨l.ne,l.ro,l.ES,l.fE,l.ij,?_⟩⟩
 ·rw[t h (fun e=>by subst e;have y:=g.ai;rw[w.blk]at y;cases y)];exact g.ai
 ·intro p j
  exact(g.hk p j).gE (fun c m=>s c (l.fE p j c m)) (fun k q c m=>s c (l.ij p j k q c m))
 ·intro p j
  rcases og j with j|rfl
  ·exact(g.aH p j).gE (fun c m=>s c (l.gr p j c m))
  ·exact z.gE (fun c m=>s c (u c m))
 ·intro p j c m
  rcases og j with j|rfl
  ·exact l.gr p j c m
  ·exact u c m
theorem adW{c}(h:cu b c a d f e)(t:fR a d i f e)(l:Bool)(m n:Int):
  O 305 #[.agg #[.bool l],Z c,.agg #[A m,A n]] b fun g u=>(∃r,g=.returned r)/\cu u c a d (cv (m,n) ⟨l,none,[],(0,0)⟩ f) e/\fR a d i (cv (m,n) ⟨l,none,[],(0,0)⟩ f) e/\aP (fun k=>k=a) b u:=by
 have q:J b ((b.alloc (.cells #[.bool l] 197)).alloc (.cells #[A m,A n] 36)).drew:=(((aoQ _ b).alloc (aoP _) _).alloc (by simp) _).drew;have D:=h.bc;have E:=h.lt;obtain⟨x,y,z,v,w⟩:=(h.af q).CH t (m,n) ⟨l,none,[],(0,0)⟩ ⟨.inl ⟨rfl,rfl⟩,fun p B=>by cases B⟩ (fun j q=>by cases q) (fun k C=>by cases C);simp only[cX,pn]at z;have s:=aa (And.intro v (And.intro w ((aP.cQ q).trans (aP.put (S:=fun k=>k=a) (.map x y) rfl))));clear h t v w q;go_enter func305,ntmps305;go_wp2;go_region
 all_goals(try go_wp2)
 all_goals go_end0
 all_goals exact⟨⟨_,rfl⟩,s.o.1,s.o.2.1,s.o.2.2⟩
theorem EU{i:Array MapEntry}{o:Obj}{c:Array Value}{f:Nat×Nat}(k:b.heap[a]?=some (.map i h))(g:b.heap[d]?=some (.cells c j f)):(putObj b.drew a o).heap[d]?=some (.cells c j f):=by
 rw[tA (fun e=>by subst e;rw[k]at g;cases g)];exact g
theorem cu.other{t u}{w':World}(i:cu r a d h t u){g:Nat}{c:Array Value}{f:Nat×Nat}(w:∀k,k≠g->w'.heap[k]?=r.heap[k]?)(C:a≠g)(x:r.heap[g]?=some (.cells c j f)):cu w' a d h t u:=by
 have o:∀{b:Nat} {l:Array MapEntry} {m:Nat},r.heap[b]?=some (.map l m)->w'.heap[b]?=r.heap[b]?:=fun D=>w _ (fun e=>by subst e;rw[D]at x;cases x)
 obtain⟨l,m,y⟩:=i.ae;obtain⟨E,F,z⟩:=i.he;have q:∀{v:Option Nat} {B:List (PId×dR)},iN r v B->iN w' v B:=fun q=>q.imp id fun⟨b,l,m,e,n⟩=>⟨b,l,m,e,n.gE (o n.blk)⟩
 exact⟨by rw[w a C];exact i.ai,⟨l,m,y.gE (o y.blk)⟩,⟨E,F,z.gE (o z.blk)⟩,
  fun p s=>⟨(i.hk p s).1.imp id fun⟨b,l,m,e,n⟩=>⟨b,l,m,e,n.gE (o n.blk)⟩,fun k I=>q ((i.hk p s).2 k I)⟩,fun p s=>q (i.aH p s)⟩
abbrev cN:=List (PId×eI)×List (PId×dS)
def mj (D:cN) (x b id:PId):cN:=
 match bq x D.1 with
 |none=>D
 |some a=>
  if a.list=false then D
  else if b=(0,0) then(cv x {a with first :=id} D.1,cv id ⟨x,a.first,none,[]⟩ D.2)
  else match bq b D.2 with
   |none=>D
   |some e=>if e.list=x then(D.1,cv b {e with next :=id} (cv id ⟨x,e.next,none,[]⟩ D.2)) else D
theorem U6(c:cu b a d h f e)(i j l m n p:Int)(q:nh (i,j) f=false):
  O 298 #[.agg #[A i,A j,A l,A m],Z a,.agg #[A n,A p]] b fun g u=>(∃r,g=.returned r)/\J b u:=by
 have k:=aa (((aoQ b.heap.size b).alloc (aoP _) (.cells #[A i,A j,A l,A m] 179)).alloc (by simp) (.cells #[A n,A p] 36));have s:=aa (yL (c.af k.o) i j);rw[q]at s;clear c q;go_enter func298,ntmps298;go_wp2_with fail
 refine s.o.mono ?_;rintro g x ⟨rfl,t⟩;have w:=aa (k.o.trans (t.mono k.o.size));clear t;go_wp2;exact bodyPost_ret (v:=.tuple #[]) (by simp[results,results298,go_sem]) rfl ⟨⟨_,rfl⟩,w.o⟩
theorem adX{g}(h:cu b g d a f e)(ae:fR d a i f e)(l m q s:Int){w:eI}(b3:bq (l,m) f=some w)(hl:w.list=true):
  O 298 #[.agg #[A l,A m,A 0,A 0],Z g,.agg #[A q,A s]] b fun j w'=>(∃r,j=.returned r)/\
   cu w' g d a (cv (l,m) {w with first :=(q,s)} f) (cv (q,s) ⟨(l,m),w.first,none,[]⟩ e)/\fR d a i (cv (l,m) {w with first :=(q,s)} f) (cv (q,s) ⟨(l,m),w.first,none,[]⟩ e)/\aP (fun k=>k=d\/k=a) b w':=by
 have a1:=aa (((aoQ b.heap.size b).alloc (aoP _) (.cells #[A l,A m,A 0,A 0] 179)).alloc (by simp) (.cells #[A q,A s] 36));have b8:=aa (yL (h.af a1.o) l m);have ao:nh (l,m) f=true:=by unfold nh;rw[b3];exact hl
 rw[ao]at b8;obtain⟨ol,U,lU,⟨f1,f2⟩⟩:=w;simp only at hl;subst hl;have W:=aa b3;clear b3 ao;have F:=aa h;clear h;have cL:=aa ae;clear ae;have heq:=uv;have Ox:et 0 0 0 0=true:=rfl;go_enter func298,ntmps298;go_wp2_with fail
 refine b8.o.mono ?_;rintro j n ⟨rfl,X⟩;have z:=aa (show n.heap[b.heap.size]?=some (.cells #[A l,A m,A 0,A 0] 179 (0,0)) by rw[X.block b.heap.size (by simp;omega)];exact mi (bL _ _));have Y:=aa (show n.heap[b.heap.size+1]?=some (.cells #[A q,A s] 36 (0,0)) by rw[X.block (b.heap.size+1) (by simp)];exact(by simp :(b.alloc (.cells #[A l,A m,A 0,A 0] 179)).heap.size=b.heap.size+1)▸bL (b.alloc (.cells #[A l,A m,A 0,A 0] 179)) _);have I:=aa (a1.o.trans (X.mono a1.o.size));clear X;have B:=uJ z.o;have C:=uK z.o;have bT:=xA z.o;have gR:=sG z.o;have L:=(bh Y.o).1;have M:=(bh Y.o).2;have oN:=aa (F.o.af I.o);have D:=oN.o.bc;have a6:=oN.o.a6;have dz:=(F.o.af I.o.drew).vP l m false;have hz1:=I.o.size;have cy:=(F.o.af (I.o.alloc hz1 (.cells #[.bool false,.map none,A 0,A 0] 170)).drew).vP l m false;rw[W.o]at dz cy;simp only[apw,apr,apG,if_false,pn]at dz cy;have gP:=oN.o.lt;have nE:=aM z.o;have je:=aM Y.o;go_wp2;go_cut [6] (fun p wc=>p=Z n.heap.size/\wc=(n.alloc (.cells #[.bool true,.map U,A f1,A f2] 170)).drew)
 case first =>
  go_region
  all_goals(go_wp2_with fail;go_meet)
  all_goals exact⟨rfl,rfl⟩
 case rest=>
  obtain⟨rfl,jX⟩:=hcut;have k8:=aa (show J n wc by rw[jX];exact((aoQ _ n).alloc (aoP _) _).drew);have N:=aa (show wc.heap[n.heap.size]?=some (.cells #[.bool true,.map U,A f1,A f2] 170 (0,0)) by rw[jX];exact bL n _);have dr:=aa (I.o.trans (k8.o.mono hz1));clear jX B C bT gR L M D a6 dz cy;have yU:=aa (F.o.af dr.o);have yV:=aa (bj z.o k8.o);have vW:=aa (bj Y.o k8.o);have B:=uJ yV.o;have C:=uK yV.o;have L:=(bh vW.o).1;have M:=(bh vW.o).2;have c7:=uJ N.o;have bg:=uK N.o;have bH:=xA N.o;have k6:=sG N.o;have D:=yU.o.bc;have a6:=yU.o.a6;obtain⟨uP,uQ,G1,rI,ma⟩:=(F.o.af dr.o.drew).yT cL.o (q,s) ⟨(l,m),(f1,f2),none,[]⟩ (.inl ⟨rfl,rfl⟩) (fun c P=>by cases P);simp only[cX,oI]at G1;have x:=aa (And.intro rI ma);clear rI ma;obtain⟨Q,eD⟩:∃Q,Q=wc:=⟨_,rfl⟩;subst eD;go_wp2;go_cut [] (fun wc=>wc=putObj Q.drew a (.map uP uQ))
  case first =>
   go_region
   all_goals(go_wp2_with fail;go_meet)
   all_goals rfl
  case rest=>
   have fN:a<Q.heap.size:=by obtain⟨_,_,hm⟩:=yU.o.he;exact hm.lt
   obtain⟨esE,adY,yW⟩:=yU.o.he;have xD:=aa (show wc.heap[b.heap.size]?=some _ by rw[hcut];exact EU yW.blk yV.o);have tI:=aa (show wc.heap[b.heap.size+1]?=some _ by rw[hcut];exact EU yW.blk vW.o);have y:=aa (show wc.heap[n.heap.size]?=some _ by rw[hcut];exact EU yW.blk N.o);rw[<-hcut]at x;have R:=aa (show aP (fun k=>k=d\/k=a) b wc by rw[hcut];exact(aP.cQ dr.o.drew).trans (aP.put _ (.inr rfl)));have hsz:wc.heap.size=Q.heap.size:=by rw[hcut];simp[putObj]
   clear hcut yW B C L M c7 bg bH k6 D a6 G1;have B:=uJ xD.o;have C:=uK xD.o;have L:=(bh tI.o).1;have M:=(bh tI.o).2;have c7:=uJ y.o;have bg:=uK y.o;have bH:=xA y.o;have k6:=sG y.o;have of:=cS y.o;have D:=x.o.1.bc;have U5:=x.o.1.lt;go_wp2;obtain⟨t,u⟩:∃t,t=(wc.setCell (V n 2) (A q)).setCell (V n 3) (A s):=⟨_,rfl⟩;rw[<-u];have dY:∀k,k≠n.heap.size->t.heap[k]?=wc.heap[k]?:=fun k E=>by rw[u,apj _ _ _ _ E,apj _ _ _ _ E]
   have eE:=aa (show t.heap[n.heap.size]?=some (.cells #[.bool true,.map U,A q,A s] 170 (0,0)) by rw[u];exact KI (Oq y.o));have sK:=aa (x.o.1.other dY (by omega) y.o);have vX:=aa ((dY _ (by omega)).trans xD.o);have AF:=aa (show aP (fun k=>k=d\/k=a) b t from⟨by rw[u];exact R.o.os,by rw[u];exact R.o.tape,by rw[u];exact R.o.output,by rw[u];have :=R.o.size;simpa[World.setCell]using this,fun k E ad=>by rw[dY k (by omega),R.o.other k E ad]⟩);clear u dY B C L M c7 bg bH k6 of D;have B:=uJ vX.o;have C:=uK vX.o;have c7:=uJ eE.o;have bg:=uK eE.o;have bH:=xA eE.o;have k6:=sG eE.o;have D:=sK.o.bc;have lW:=aa (show J t t.drew from(aoQ _ t).drew);have hkq:=sK.o.hk;obtain⟨jt,ju,CI,gF,fv⟩:=(sK.o.af lW.o).CH x.o.2 (l,m) ⟨true,U,lU,(q,s)⟩ ((sK.o.hk _ (fQ W.o)).af lW.o) (fun c P=>x.o.2.fE _ (fQ W.o) c P) (fun k E c P=>x.o.2.ij _ (fQ W.o) k E c P);simp only[cX,pn]at CI;have aT:=aa (And.intro gF (And.intro fv (AF.o.trans ((aP.cQ lW.o).trans (aP.put (S:=fun k=>k=d\/k=a) (.map jt ju) (.inl rfl))))));clear gF fv hkq;go_wp2;go_region
   all_goals(try go_wp2)
   all_goals exact bodyPost_ret (v:=.tuple #[]) (by simp[results,results298,go_sem]) rfl ⟨⟨_,rfl⟩,aT.o.1,aT.o.2.1,aT.o.2.2⟩
theorem ga{w:World}{g:Nat}{e:Value}{f:Nat×Nat}(h:w.heap[g]?=some (.cells #[m,v,y,z,e] j f)):
  w.cell? (H g)=some m/\w.cell? (K g 1)=some v/\w.cell? (K g 2)=some y/\w.cell? (K g 3)=some z/\w.cell? (K g 4)=some e:=by simp[World.cell?,h]
theorem iN.EV{S v c}(h:iN b v c)(f:aP S b r)(g:∀a,v=some a->¬S a):iN r v c:=
 h.imp id fun⟨a,i,j,e,d⟩=>⟨a,i,j,e,d.gE (f.other a d.lt (g a e))⟩
theorem adZ{c d:Value}(h:b.heap[a]?=some (.cells #[m,v,c,d,w] j (0,0))):((b.setCell (K a 2) y).setCell (K a 3) z).heap[a]?=some (.cells #[m,v,y,z,w] j (0,0)):=by
 have e:=aM h;obtain⟨_,f⟩:=ao1.1 h;simp[World.setCell,e,ap2,f]
theorem ad0{j}(h:cu b j d a f e)(ae:fR d a i f e)(l m s u w x:Int)(hl:nh (l,m) f=true)(bb:(s,u)≠((0:Int),(0:Int)))(dL:bq (s,u) e=some n)(al:n.list=(l,m)):
  O 298 #[.agg #[A l,A m,A s,A u],Z j,.agg #[A w,A x]] b fun c w'=>(∃r,c=.returned r)/\
   cu w' j d a f (cv (s,u) {n with next :=(w,x)} (cv (w,x) ⟨(l,m),n.next,none,[]⟩ e))/\fR d a i f (cv (s,u) {n with next :=(w,x)} (cv (w,x) ⟨(l,m),n.next,none,[]⟩ e))/\aP (fun k=>k=d\/k=a) b w':=by
 have a1:=aa (((aoQ b.heap.size b).alloc (aoP _) (.cells #[A l,A m,A s,A u] 179)).alloc (by simp) (.cells #[A w,A x] 36));have b8:=aa (yL (h.af a1.o) l m);rw[hl]at b8;obtain⟨q,⟨c4,cm⟩,I,CG⟩:=n;simp only at al;subst al;have L:=aa dL;clear dL hl;have B:=aa h;clear h;have C:=aa ae;clear ae;have heq:=uv;have br:=Ak;have Ox:et s u 0 0=false:=by rw[yx];exact bb
 have ad1:et l m l m=true:=by rw[B6]
 go_enter func298,ntmps298;go_wp2_with fail
 refine b8.o.mono ?_;rintro c v ⟨rfl,Q⟩;have D:=aa (show v.heap[b.heap.size]?=some (.cells #[A l,A m,A s,A u] 179 (0,0)) by rw[Q.block b.heap.size (by simp;omega)];exact mi (bL _ _));have tM:=aa (show v.heap[b.heap.size+1]?=some (.cells #[A w,A x] 36 (0,0)) by rw[Q.block (b.heap.size+1) (by simp)];exact(by simp :(b.alloc (.cells #[A l,A m,A s,A u] 179)).heap.size=b.heap.size+1)▸bL (b.alloc (.cells #[A l,A m,A s,A u] 179)) _);have M:=aa (a1.o.trans (Q.mono a1.o.size));clear Q;have cr:=uJ D.o;have CJ:=uK D.o;have R:=xA D.o;have U:=sG D.o;have oN:=aa (B.o.af M.o);have E:=oN.o.a6;have dz:=(B.o.af M.o.drew).sB s u true;have hz1:=M.o.size;have cy:=(B.o.af (M.o.alloc hz1 (.cells #[A 0,A 0,A 0,A 0,.map none] 176)).drew).sB s u true;rw[L.o]at dz cy;simp only[apw,apr,aqP,if_true,oI]at dz cy;have gP:=oN.o.lt;have nE:=aM D.o;have je:=aM tM.o;go_wp2;go_cut [7,8] (fun p t wc=>p=Z v.heap.size/\t=.bool true/\wc=(v.alloc (.cells #[A l,A m,A c4,A cm,.map I] 176)).drew)
 case first =>
  go_region
  all_goals(go_wp2_with fail;go_meet)
  all_goals exact⟨rfl,rfl,rfl⟩
 case rest=>
  obtain⟨rfl,rfl,jX⟩:=hcut;have k8:=aa (show J v wc by rw[jX];exact((aoQ _ v).alloc (aoP _) _).drew);have qP:=aa (show wc.heap[v.heap.size]?=some (.cells #[A l,A m,A c4,A cm,.map I] 176 (0,0)) by rw[jX];exact bL v _);have dr:=aa (M.o.trans (k8.o.mono hz1));clear jX cr CJ R U E dz cy;have yU:=aa (B.o.af dr.o);have yV:=aa (bj D.o k8.o);have vW:=aa (bj tM.o k8.o);have cr:=uJ yV.o;have CJ:=uK yV.o;have a0:=(bh vW.o).1;have b1:=(bh vW.o).2;obtain⟨W,X,Y,k6,yF⟩:=ga qP.o;have E:=yU.o.a6;obtain⟨uP,uQ,G1,rI,ma⟩:=(B.o.af dr.o.drew).yT C.o (w,x) ⟨(l,m),(c4,cm),none,[]⟩ (.inl ⟨rfl,rfl⟩) (fun g F=>by cases F);simp only[cX,oI]at G1;have N:=aa (And.intro rI ma);clear rI ma;obtain⟨w2,eD⟩:∃w2,w2=wc:=⟨_,rfl⟩;subst eD;go_wp2;go_cut [] (fun wc=>wc=putObj w2.drew a (.map uP uQ))
  case first =>
   go_region
   all_goals(go_wp2_with fail;go_meet)
   all_goals rfl
  case rest=>
   obtain⟨esE,adY,yW⟩:=yU.o.he;have xD:=aa (show wc.heap[b.heap.size]?=some _ by rw[hcut];exact EU yW.blk yV.o);have tI:=aa (show wc.heap[b.heap.size+1]?=some _ by rw[hcut];exact EU yW.blk vW.o);have px:=aa (show wc.heap[v.heap.size]?=some _ by rw[hcut];exact EU yW.blk qP.o);rw[<-hcut]at N;have P:=aa (show aP (fun k=>k=d\/k=a) b wc by rw[hcut];exact(aP.cQ dr.o.drew).trans (aP.put _ (.inr rfl)));have hsz:wc.heap.size=w2.heap.size:=by rw[hcut];simp[putObj]
   clear hcut yW cr CJ a0 b1 W X Y k6 yF E G1;have R:=xA xD.o;have U:=sG xD.o;have a0:=(bh tI.o).1;have b1:=(bh tI.o).2;obtain⟨W,X,Y,k6,yF⟩:=ga px.o;have of:=cS px.o;have E:=N.o.1.a6;have U5:=N.o.1.lt;go_wp2;obtain⟨y,z⟩:∃y,y=(wc.setCell (V v 2) (A w)).setCell (V v 3) (A x):=⟨_,rfl⟩;rw[<-z];have dY:∀k,k≠v.heap.size->y.heap[k]?=wc.heap[k]?:=fun k hk=>by rw[z,apj _ _ _ _ hk,apj _ _ _ _ hk]
   have eE:=aa (show y.heap[v.heap.size]?=some (.cells #[A l,A m,A w,A x,.map I] 176 (0,0)) by rw[z];exact adZ px.o);have sK:=aa (N.o.1.other dY (by omega) px.o);have vX:=aa ((dY _ (by omega)).trans xD.o);have AF:=aa (show aP (fun k=>k=d\/k=a) b y from⟨by rw[z];exact P.o.os,by rw[z];exact P.o.tape,by rw[z];exact P.o.output,by rw[z];have :=P.o.size;simpa[World.setCell]using this,fun k hk ad=>by rw[dY k (by omega),P.o.other k hk ad]⟩);clear z dY R U a0 b1 W X Y k6 yF of E;have R:=xA vX.o;have U:=sG vX.o;obtain⟨W,X,Y,k6,yF⟩:=ga eE.o;have E:=sK.o.a6;have lW:=aa (show J y y.drew from(aoQ _ y).drew);have Oy:=aa (show iN y.drew I CG from((B.o.aH _ (fQ L.o)).EV AF.o (fun g F ad=>ad.elim (fun c=>C.o.ro (c▸C.o.gr _ (fQ L.o) g F)) (fun c=>C.o.ES (c▸C.o.gr _ (fQ L.o) g F)))).af lW.o);obtain⟨jt,ju,CI,gF,fv⟩:=(sK.o.af lW.o).yT N.o.2 (s,u) ⟨(l,m),(w,x),I,CG⟩ Oy.o (fun g F=>C.o.gr _ (fQ L.o) g F);simp only[cX,oI]at CI;have aT:=aa (And.intro gF (And.intro fv (AF.o.trans ((aP.cQ lW.o).trans (aP.put (S:=fun k=>k=d\/k=a) (.map jt ju) (.inr rfl))))));clear gF fv;go_wp2;go_region
   all_goals(try go_wp2)
   all_goals go_end0
   all_goals exact⟨⟨_,rfl⟩,aT.o.1,aT.o.2.1,aT.o.2.2⟩
theorem ad2{E}(h:cu b a d E f e)(j k g i p q:Int)(u:nh (j,k) f=true)(F:(g,i)≠((0:Int),(0:Int)))(w:bq (g,i) e=none):
  O 298 #[.agg #[A j,A k,A g,A i],Z a,.agg #[A p,A q]] b fun c I=>(∃r,c=.returned r)/\J b I:=by
 have s:=aa (((aoQ b.heap.size b).alloc (aoP _) (.cells #[A j,A k,A g,A i] 179)).alloc (by simp) (.cells #[A p,A q] 36));have x:=aa (yL (h.af s.o) j k);rw[u]at x;have L:=aa w;clear w u;have t:=aa h;clear h;have heq:=uv;have N:=Ak;have P:et g i 0 0=false:=by rw[yx];exact F
 go_enter func298,ntmps298;go_wp2_with fail
 refine x.o.mono ?_;rintro c y ⟨rfl,n⟩;have l:=aa (show y.heap[b.heap.size]?=some (.cells #[A j,A k,A g,A i] 179 (0,0)) by rw[n.block b.heap.size (by simp;omega)];exact mi (bL _ _));have M:=aa (show y.heap[b.heap.size+1]?=some (.cells #[A p,A q] 36 (0,0)) by rw[n.block (b.heap.size+1) (by simp)];exact(by simp :(b.alloc (.cells #[A j,A k,A g,A i] 179)).heap.size=b.heap.size+1)▸bL (b.alloc (.cells #[A j,A k,A g,A i] 179)) _);have m:=aa (s.o.trans (n.mono s.o.size));clear n;have Q:=uJ l.o;have R:=uK l.o;have S:=xA l.o;have U:=sG l.o;have z:=aa (t.o.af m.o);have W:=z.o.a6;have B:=(t.o.af m.o.drew).sB g i true;have C:=m.o.size;have D:=(t.o.af (m.o.alloc C (.cells #[A 0,A 0,A 0,A 0,.map none] 176)).drew).sB g i true;rw[L.o]at B D;simp only[aqt,aqY,art,if_true]at B D;have X:=z.o.lt;have Y:=aM l.o;have je:=aM M.o;go_wp2;go_region
 all_goals go_wp2
 all_goals exact bodyPost_ret (v:=.tuple #[]) (by simp[results,results298,go_sem]) rfl ⟨⟨_,rfl⟩,(m.o.alloc C _).drew⟩
theorem ad3{I}(h:cu b a d I f e)(j k g i q s:Int)(w:nh (j,k) f=true)(L:(g,i)≠((0:Int),(0:Int)))(x:bq (g,i) e=some n)(y:n.list≠(j,k)):
  O 298 #[.agg #[A j,A k,A g,A i],Z a,.agg #[A q,A s]] b fun c M=>(∃r,c=.returned r)/\J b M:=by
 have t:=aa (((aoQ b.heap.size b).alloc (aoP _) (.cells #[A j,A k,A g,A i] 179)).alloc (by simp) (.cells #[A q,A s] 36));have z:=aa (yL (h.af t.o) j k);rw[w]at z;obtain⟨⟨q1,N⟩,⟨R,S⟩,U,W⟩:=n;simp only at y;have P:=aa x;clear x w;have u:=aa h;clear h;have heq:=uv;have X:=Ak;have Y:et g i 0 0=false:=by rw[yx];exact L
 have ad1:et q1 N j k=false:=by rw[yx];exact y
 go_enter func298,ntmps298;go_wp2_with fail
 refine z.o.mono ?_;rintro c B ⟨rfl,p⟩;have l:=aa (show B.heap[b.heap.size]?=some (.cells #[A j,A k,A g,A i] 179 (0,0)) by rw[p.block b.heap.size (by simp;omega)];exact mi (bL _ _));have Q:=aa (show B.heap[b.heap.size+1]?=some (.cells #[A q,A s] 36 (0,0)) by rw[p.block (b.heap.size+1) (by simp)];exact(by simp :(b.alloc (.cells #[A j,A k,A g,A i] 179)).heap.size=b.heap.size+1)▸bL (b.alloc (.cells #[A j,A k,A g,A i] 179)) _);have m:=aa (t.o.trans (p.mono t.o.size));clear p;have cr:=uJ l.o;have CJ:=uK l.o;have EW:=xA l.o;have gR:=sG l.o;have C:=aa (u.o.af m.o);have a6:=C.o.a6;have D:=(u.o.af m.o.drew).sB g i true;have E:=m.o.size;have F:=(u.o.af (m.o.alloc E (.cells #[A 0,A 0,A 0,A 0,.map none] 176)).drew).sB g i true;rw[P.o]at D F;simp only[apw,apr,aqP,if_true,oI]at D F;have gP:=C.o.lt;have nE:=aM l.o;have je:=aM Q.o;go_wp2;go_region
 all_goals go_wp2
 all_goals exact bodyPost_ret (v:=.tuple #[]) (by simp[results,results298,go_sem]) rfl ⟨⟨_,rfl⟩,(m.o.alloc E _).drew⟩
theorem ad4(c:cu b h a d f e)(C:fR a d i f e)(x g j:PId):
  O 298 #[.agg #[A x.1,A x.2,A g.1,A g.2],Z h,.agg #[A j.1,A j.2]] b fun l w=>(∃r,l=.returned r)/\
   cu w h a d (mj (f,e) x g j).1 (mj (f,e) x g j).2/\fR a d i (mj (f,e) x g j).1 (mj (f,e) x g j).2/\aP (fun k=>k=a\/k=d) b w:=by
 have skip:∀l w,(∃r,l=Ending.returned r)/\J b w->(∃r,l=.returned r)/\cu w h a d f e/\fR a d i f e/\aP (fun k=>k=a\/k=d) b w:=fun l w D=>⟨D.1,c.af D.2,C,aP.cQ D.2⟩
 obtain⟨m,n⟩:=x;obtain⟨q,s⟩:=g;obtain⟨o,p⟩:=j;cases u:bq (m,n) f with
 |none=>
  have t:mj (f,e) (m,n) (q,s) (o,p)=(f,e):=by simp[mj,u]
  rw[t];exact(U6 c m n q s o p (by simp[nh,u])).mono skip
 |some E=>
  cases v:E.list with
  |false=>
   have t:mj (f,e) (m,n) (q,s) (o,p)=(f,e):=by simp[mj,u,v]
   rw[t];exact(U6 c m n q s o p (by simp[nh,u,v])).mono skip
  |true=>
   have F:nh (m,n) f=true:=by simp[nh,u,v]
   by_cases y:(q,s)=((0:Int),(0:Int))
   ·injection y with L M
    subst L;subst M;have t:mj (f,e) (m,n) (0,0) (o,p)=(cv (m,n) {E with first :=(o,p)} f,cv (o,p) ⟨(m,n),E.first,none,[]⟩ e):=by simp[mj,u,v]
    rw[t];exact adX c C m n o p u v
   ·cases z:bq (q,s) e with
    |none=>
     have t:mj (f,e) (m,n) (q,s) (o,p)=(f,e):=by simp only[mj,u,v,z];rw[if_neg (by simp),if_neg y]
     rw[t];exact(ad2 c m n q s o p F y z).mono skip
    |some I=>
     by_cases B:I.list=(m,n)
     ·have t:mj (f,e) (m,n) (q,s) (o,p)=(f,cv (q,s) {I with next :=(o,p)} (cv (o,p) ⟨(m,n),I.next,none,[]⟩ e)):=by simp only[mj,u,v,z];rw[if_neg (by simp),if_neg y,if_pos B]
      rw[t];exact ad0 c C m n q s o p F y z B
     ·have t:mj (f,e) (m,n) (q,s) (o,p)=(f,e):=by simp only[mj,u,v,z];rw[if_neg (by simp),if_neg y,if_neg B]
      rw[t];exact(ad3 c m n q s o p F y z B).mono skip
def jg {ν:Type} (a:List MapEntry) (m:List ν) (e:MapEntry):Option ν:=((a.zip m).find? fun z=>z.1.born==e.born).map (·.2)
theorem KN {ν:Type} {m:List ν} (c:(l.map (·.born)).Nodup) (f:l.length=m.length) (d:a<l.length):jg l m l[a]=some (m[a]'(by omega)):=by
 unfold jg;have :(l.zip m).find? (fun z=>z.1.born==l[a].born)=some (l[a],m[a]'(by omega)):=by
  rw[aqF];refine⟨by simp,a,by simp;omega,by simp,fun j e=> ?_⟩;have b:=apM.1 c j a (by simp;omega) (by simpa using d) e;simp at b;simpa using b
 rw[this];rfl
theorem Oz {ν:Type} {m:List ν} (c:(l.map (·.born)).Nodup) (a:l.length=m.length):l.filterMap (jg l m)=m:=by
 have d:l.map (jg l m)=m.map some:=by
  apply aqz
  ·simp[a]
  ·intro i e b
   simp only[apy];rw[KN c a (by simpa using e)]
 have b:l.filterMap (jg l m)=(l.map (jg l m)).filterMap id:=by rw[List.filterMap_map];rfl
 rw[b,d,List.filterMap_map];simp
theorem OA {κ ν:Type} {a:κ->Value} {b:ν->Value} {m:List (κ×ν)} (d:(l.map (·.born)).Nodup) (h:kL a b l m) {e:MapEntry} (f:e∈l):
  ∃p∈m,jg l m e=some p/\e.key=a p.1/\e.val=b p.2:=by
 have g:l.length=m.length:=by have :=congrArg List.length h;simpa using this
 obtain⟨i,c,rfl⟩:=apl.1 f;have j:i<m.length:=by omega
 refine⟨m[i],aoY _,KN d g c,?_⟩;have :=congrArg (·[i]?) h;simp[c,j]at this;exact this
def oO (a:List (ByteArray×qL)):List ByteArray:=(a.filter fun p=>decide (0<p.2.aB.length)).map (·.1)
end Go.Proofs.YtnkpogjiiohapaaGreatDoor
