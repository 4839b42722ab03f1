/- Our own text. -/
import Derived.Test.YtnkpogjiiohapaaGreatDoorA15
import Derived.Test.YtnkpogjiiohapaaGreatDoorA28
set_option linter.unusedSimpArgs false
set_option linter.unusedVariables false
set_option maxRecDepth 1000000
set_option maxHeartbeats 1600000
namespace Go.Proofs.YtnkpogjiiohapaaGreatDoor
open Go.RowKit Tryz
variable {a d k l q v:Nat}{b n:World}{e f j:Nat->Prop}{h:cq}{m:List bu}{r:TypeId}{s w y:Value}{u:gq}
structure fm where
 aN:Value
 aG:Value
 aQ:Value
 aV:Nat->Value
 cops:Nat->List bw
 cp:Nat->Nat->Value
 wL:Nat->Nat->Value
 cO:Nat->Value
 gK:Nat->Nat->Value
 jx:Nat->Nat->List gq
variable {i:fm}
structure da (w:World) (r:Nat) (F L I:Nat->Prop) (N:Nat) (S:cq) (x:fm):Prop where
 cx:sZ w r F N S.P S.has x.aN x.aG x.aQ x.aV x.cops x.cp
 wait:∀c,c<N->jA 0 w (x.cp c 1) (S.wait c)
 lost:∀c,c<N->kJ 0 w (x.cp c 2) ((List.range N).map (S.lost c))
 BL:∀c,c<N->w.ownsRow 0 24 1 (x.cp c 3) N ((List.range N).map (x.wL c))
 qq:∀c d,c<N->d<N->kJ 0 w (x.wL c d) ((List.range N).map (S.known c d))
 cl:w.ownsRow 0 226 1 x.aQ N ((List.range N).map x.cO)
 hl:∀i,i<N->w.ownsRow 0 249 2 (x.cO i) N ((List.range N).flatMap fun j=>[.bool (S.sh i j),x.gK i j])
 ao:∀i j,i<N->j<N->jP w 251 3 (x.gK i j) (x.jx i j).length ((x.jx i j).flatMap iv)
 pm:∀i j,i<N->j<N->(x.jx i j).map gq.p=S.ms i j
 each:∀i j,i<N->j<N->∀m∈x.jx i j,rj w m/\(∀k,m.mz.ownBlock=some k->I k)/\∀k,m.cb.ownBlock=some k->I k
 lw:∀c,c<N->∀k,(x.cp c 1).ownBlock=some k->L k
 zL:∀c,c<N->∀k,(x.cp c 2).ownBlock=some k->L k
 zM:∀c,c<N->∀k,(x.cp c 3).ownBlock=some k->L k
 p5:∀c d,c<N->d<N->∀k,(x.wL c d).ownBlock=some k->L k
 zN:∀k,x.aQ.ownBlock=some k->L k
 hh:∀i,i<N->∀k,(x.cO i).ownBlock=some k->L k
 pR:∀i j,i<N->j<N->∀k,fh (x.gK i j)=some k->L k
 zO:∀c b2,c<N->b2<N->c≠b2->∀k,(x.cp c 1).ownBlock=some k->(x.cp b2 1).ownBlock≠some k
 BM:∀c d b2 ca,c<N->d<N->b2<N->ca<N->(c≠b2\/d≠ca)->∀k,(x.wL c d).ownBlock=some k->(x.wL b2 ca).ownBlock≠some k
 zy:∀c b2,c<N->b2<N->c≠b2->∀k,(x.cp c 2).ownBlock=some k->(x.cp b2 2).ownBlock≠some k
 DW:∀c d b2,c<N->d<N->b2<N->∀k,(x.wL c d).ownBlock=some k->(x.cp b2 2).ownBlock≠some k
 dp:∀i j,i<N->j<N->i≠j->∀k,(x.cO i).ownBlock=some k->(x.cO j).ownBlock≠some k
 zP:∀i j lk zQ,i<N->j<N->lk<N->zQ<N->(i≠lk\/j≠zQ)->∀k,fh (x.gK i j)=some k->fh (x.gK lk zQ)≠some k
 wM:∀k,L k->¬F k
 lt:∀k,L k->k<w.heap.size
 cJ:∀k,I k->k<w.heap.size
 wN:∀k,I k->¬F k
 o8:∀k,I k->¬L k
theorem rj.gU(h:rj b u)(d:∀k,u.mz.ownBlock=some k->e k)(f:∀k,u.cb.ownBlock=some k->e k)(c:∀k,e k->n.heap[k]?=b.heap[k]?):rj n u:=⟨b4 h.1 fun g a=>c g (d g a),b4 h.2 fun g a=>c g (f g a)⟩
theorem da.gB(l:da n a e f j d h i)(B:n.heap.size<=b.heap.size)(hF:∀k,e k->b.heap[k]?=n.heap[k]?)(w:∀k,f k->b.heap[k]?=n.heap[k]?)(y:∀k,j k->b.heap[k]?=n.heap[k]?):da b a e f j d h i:=by
 have F:sZ b a e d h.P h.has i.aN i.aG i.aQ i.aV i.cops i.cp:=by
  have p:=l.cx;refine⟨⟨?_,p.room.hN,b4 p.room.hq (fun g t=>hF g (p.p8 g t)),fun q y=>⟨b4 (p.room.dZ q y).1 (fun g t=>hF g (p.qV q y g t)),fun o D=>b4 ((p.room.dZ q y).2 o D) (fun g t=>hF g (p.fold q y o D g t))⟩,b4 p.room.fx (fun g t=>hF g (p.mr g t)),fun c u=>b4 (p.room.hH c u) (fun g t=>hF g (p.qW c u g t)),p.room.hle,p.room.hsz⟩,p.apart,p.ops,p.cd,p.p8,p.mr,p.qV,p.qW,p.fold,fun k I=>aoV (p.lt k I) B⟩;rw[hF a p.cd];exact p.room.aI
 exact⟨F,fun c u=>b4 (l.wait c u) fun g t=>w g (l.lw c u g t),fun c u=>b4 (l.lost c u) fun g t=>w g (l.zL c u g t),fun c u=>b4 (l.BL c u) fun g t=>w g (l.zM c u g t),fun c s u E=>b4 (l.qq c s u E) fun g t=>w g (l.p5 c s u E g t),b4 l.cl fun g t=>w g (l.zN g t),fun q v=>b4 (l.hl q v) fun g t=>w g (l.hh q v g t),fun q r v x=>(l.ao q r v x).af fun g t=>w g (l.pR q r v x g t),l.pm,fun q r v x m z=>⟨(l.each q r v x m z).1.gU (l.each q r v x m z).2.1 (l.each q r v x m z).2.2 y,(l.each q r v x m z).2⟩,l.lw,l.zL,l.zM,l.p5,l.zN,l.hh,l.pR,l.zO,l.BM,l.zy,l.DW,l.dp,l.zP,l.wM,fun k C=>aoV (l.lt k C) B,fun k C=>aoV (l.cJ k C) B,l.wN,l.o8⟩
theorem da.af{w r S x}{w':World}(h:da w r e f j a S x)(c:J w w'):da w' r e f j a S x:=h.gB c.size (fun k b=>c.block k (h.cx.lt k b)) (fun k b=>c.block k (h.lt k b)) (fun k b=>c.block k (h.cJ k b))
theorem da.DX{I}(c:da b q e j I l h i)(o:d<l)(s:a<l):∃p r m n,i.aQ=.slice (some (H p)) l r/\l<=r/\b.cell? (K p d)=some (.slice (some (H m)) l n)/\l<=n/\i.cO d=.slice (some (H m)) l n/\b.cell? (K m (a*2))=some (.bool (h.sh d a))/\b.cell? (K m (a*2+1))=some (i.gK d a):=by
 obtain⟨g,r,v,x,_,y⟩:=bp c.cl;obtain⟨p,rfl⟩:=y d o;obtain⟨F,n,t,z,_,B⟩:=bp (c.hl d o);obtain⟨m,rfl⟩:=B a s;have w:=c.cl;rw[v]at w;have u:=c.hl d o;rw[t]at u;have C:=w.cellAt d (by omega);have D:=iw (f:=fun a=>[Value.bool (h.sh d a),i.gK d a]) (k:=2) (fun _=>rfl) u (by simp) a (by simpa using s) 0 (by omega);have E:=iw (f:=fun a=>[Value.bool (h.sh d a),i.gK d a]) (k:=2) (fun _=>rfl) u (by simp) a (by simpa using s) 1 (by omega);refine⟨p,r,m,n,v,x,by rw[C];simp[o,t],z,t,?_,?_⟩
 ·simpa using D
 ·simpa using E
theorem Rs(k:da b d e f j a h i)(c g:Nat)(u:c<a)(v:g<a)(B:c≠g):
  O 155 #[Z d,A c,A g] b fun l w=>(∃m n,i.cO c=.slice (some (H m)) a n/\l=.returned (.tuple #[.pointer (some (K m (g*2))),A 0]))/\w=b:=by
 have p:=aa (xo k.cx.room c);have q:=aa (xo k.cx.room g);have x:b.cell? (K d 3)=some i.aQ:=by simp[World.cell?,k.cx.room.aI]
 have C:=k.cx.room.hN;obtain⟨D,E,m,n,r,F,I,L,y,_,_⟩:=k.DX u v;rw[r]at x;have s:decide (0<=(c:Int)/\(c:Int)<(a:Int))=true:=by simp;omega
 have t:decide (0<=(g:Int)/\(g:Int)<(a:Int))=true:=by simp;omega
 rw[s]at p;rw[t]at q;have M:¬((c:Int)=(g:Int)):=by omega
 have N:(0:Int)<=(c:Int):=ao0 _;have P:(c:Int)<(a:Int):=by omega
 have Q:(0:Int)<=(g:Int):=ao0 _;have R:(g:Int)<(a:Int):=by omega
 clear k s t r;go_enter func155,ntmps155;go_wp2_with fail
 refine p.o.mono ?_;rintro l z ⟨rfl,rfl⟩;go_wp2_with fail
 refine q.o.mono ?_;rintro l z ⟨rfl,rfl⟩;go_wp2;go_ret2
 exact⟨⟨m,n,y,rfl⟩,rfl⟩
theorem ajg(l:da b d e f j a h i)(c k:Nat)(n:c<a)(p:k<a)(w:c≠k):
  O 116 #[Z d,A c,A k] b fun m x=>m=.returned (.tuple #[A (h.ms c k).length,A 0])/\x=b:=by
 have y:=aa (Rs l c k n p w);obtain⟨E,F,I,L,_,_,_,_,z,_,B⟩:=l.DX n p;have t:(i.jx c k).length=(h.ms c k).length:=by rw[<-l.pm c k n p,aoU]
 obtain⟨u,v,C⟩:∃u v,i.gK c k=.slice u (h.ms c k).length v:=by
  rw[<-t];rcases(l.ao c k n p).at' with⟨q,r,D⟩|⟨g,M,N,P,r,_⟩
  ·exact⟨q,0,by rw[r,D]⟩
  ·exact⟨_,_,r⟩
 rw[C]at B;clear l t;go_enter func116,ntmps116;go_wp2_with fail
 refine y.o.mono ?_;rintro m Q ⟨⟨R,S,s,rfl⟩,rfl⟩;rw[z]at s;simp only[apo,apD,apS,and_true,true_and]at s;obtain⟨rfl,rfl⟩:=s;go_wp2;go_ret2
 exact⟨rfl,rfl⟩
theorem IG{e:List Value}(h:b.ownsRow l r q (.slice (some (H a)) d k) d e)(o:Nat)(u:Value):(b.setCell (K a o) u).ownsRow l r q (.slice (some (H a)) d k) d (e.set o u):=by
 refine⟨by rw[aqx];exact h.1,?_⟩;rcases h.2 with⟨c,_⟩|⟨s,t,f,c,g,i,j,m,n,p⟩
 ·simp at c
 ·simp only[apo,apD,apS,and_true,true_and]at c
  obtain⟨rfl,rfl⟩:=c;refine .inr ⟨a,k,f.setIfInBounds o u,rfl,g,setRow i,j,m,by rw[Array.size_setIfInBounds];exact n,?_⟩;rw[Array.toList_setIfInBounds,<-p,List.take_set]
theorem Rt {α β:Type} {f g:α->List β}:∀{l:List α},(∀x∈l,f x=g x)->l.flatMap f=l.flatMap g
 |[],_=>rfl
 |y::l,h=>by rw[ape,ape,h y (by simp),Rt fun x a=>h x (by simp[a])]
theorem Zy{a q:Nat->Value}{d:Nat}{v:Value}:∀(l:List Nat) (i:Nat),l.Nodup->l[i]?=some d->(l.flatMap fun j=>[a j,q j]).set (i*2+1) v=l.flatMap fun j=>[a j,upd q d v j]
 |[],_,_,h=>by simp at h
 |y::l,0,b,h=>by
  simp only[aqb,apD]at h;subst h;have c:y∉l:=(apg.1 b).1;have e:(l.flatMap fun j=>[a j,q j])=l.flatMap fun j=>[a j,upd q y v j]:=Rt fun j f=>by
   rw[ck];rintro rfl;exact c f
  simp only[ape,apC,apN,aqM,List.set_cons_zero,Nat.zero_mul,apF,bN];rw[e]
 |y::l,i+1,b,h=>by
  simp only[aqW]at h;have c:y≠d:=by
   rintro rfl;exact(apg.1 b).1 (aq0 h)
  have ih:=Zy (a:=a) (q:=q) (v:=v) l i (apg.1 b).2 h;rw[show(i+1)*2+1=(i*2+1)+1+1 by omega];simp only[ape,apC,apN,aqM];rw[ih,ck _ _ c]
def wP (S:cq) (c d:Nat) (b:Bool) (l:List jN):cq:={S with ms:=upd S.ms c (upd (S.ms c) d l),sh:=upd S.sh c (upd (S.sh c) d b)}
def r9 (x:fm) (c d:Nat) (v:Value) (l:List gq):fm:={x with gK:=upd x.gK c (upd (x.gK c) d v),jx:=upd x.jx c (upd (x.jx c) d l)}
theorem zS {α:Type} (f:Nat->α) (k:Nat):upd f k (f k)=f:=by
 funext j;by_cases e:j=k
 ·subst e;rw[bN]
 ·rw[ck _ _ e]
theorem ajh(S:cq)(c d:Nat)(l:List jN):wP S c d (S.sh c d) l=gJ S c d l:=by
 unfold wP gJ;rw[zS,zS]
theorem da.Ih{w F}(r:da w l F f e k h i)(L:a<k)(W:d<k){b:Bool}{v':Value}{cm':List gq}{I':Nat->Prop}(aF:aP (fun c=>(i.cO a).ownBlock=some c\/fh (i.gK a d)=some c) w n)(fb:n.ownsRow 0 249 2 (i.cO a) k ((List.range k).flatMap fun j=>[.bool (upd (h.sh a) d b j),upd (i.gK a) d v' j]))(hJ:jP n 251 3 v' cm'.length (cm'.flatMap iv))(c6:∀c,fh v'=some c->fh (i.gK a d)=some c\/w.heap.size<=c)(cT:∀c,I' c->e c\/(c<n.heap.size/\¬F c/\¬f c/\fh v'≠some c))(oq:∀c,e c->I' c)(IH:∀m∈cm',rj n m/\(∀c,m.mz.ownBlock=some c->I' c)/\∀c,m.cb.ownBlock=some c->I' c):
  da n l F (fun c=>f c\/(w.heap.size<=c/\fh v'=some c)) I' k (wP h a d b (cm'.map gq.p)) (r9 i a d v' cm'):=by
 have vx:∀q,q<k->∀c,(i.cO q).ownBlock=some c->∃N,w.heap[c]?=some (.cells N 249 (0,0)):=fun q z c x=>bt (r.hl q z) x
 have o9:∀q j,q<k->j<k->∀c,fh (i.gK q j)=some c->∃N,w.heap[c]?=some (.cells N 251 (0,0)):=fun q j z D c x=>(r.ao q j z D).lt x
 have stay:∀c,c<w.heap.size->((i.cO a).ownBlock≠some c)->fh (i.gK a d)≠some c->n.heap[c]?=w.heap[c]?:=fun c x y M=>aF.other c x fun s=>s.elim y M
 have other:∀{s:TypeId} {c:Nat} {N:Array Value},s≠249->s≠251->w.heap[c]?=some (.cells N s (0,0))->n.heap[c]?=w.heap[c]?:=fun{s c N} y M C=>stay c (aM C)
  (fun x=>by obtain⟨iy,U⟩:=vx a L c x;exact y (bz C U))
  (fun x=>by obtain⟨iy,U⟩:=o9 a d L W c x;exact M (bz C U))
 have X:∀c,F c->n.heap[c]?=w.heap[c]?:=fun c x=>stay c (r.cx.lt c x) (fun s=>r.wM c (r.hh a L c s) x) (fun s=>r.wM c (r.pR a d L W c s) x)
 have Ru:∀c,e c->n.heap[c]?=w.heap[c]?:=fun c x=>stay c (r.cJ c x) (fun s=>r.o8 c x (r.hh a L c s)) (fun s=>r.o8 c x (r.pR a d L W c s))
 have wO:sZ n l F k h.P h.has i.aN i.aG i.aQ i.aV i.cops i.cp:=by
  have t:=r.cx;refine⟨⟨?_,t.room.hN,b4 t.room.hq (fun g C=>X g (t.p8 g C)),fun q z=>⟨b4 (t.room.dZ q z).1 (fun g C=>X g (t.qV q z g C)),fun o Y=>b4 ((t.room.dZ q z).2 o Y) (fun g C=>X g (t.fold q z o Y g C))⟩,b4 t.room.fx (fun g C=>X g (t.mr g C)),fun a L=>b4 (t.room.hH a L) (fun g C=>X g (t.qW a L g C)),t.room.hle,t.room.hsz⟩,t.apart,t.ops,t.cd,t.p8,t.mr,t.qV,t.qW,t.fold,fun c Q=>aoV (t.lt c Q) aF.size⟩;rw[X l t.cd];exact t.room.aI
 have l6:∀{s:TypeId} {c u:Nat} {v:Value} {xs:List Value},s≠249->s≠251->w.ownsRow 0 s c v u xs->n.ownsRow 0 s c v u xs:=fun{s c u v xs} y M Y=>b4 Y fun g C=>by
  obtain⟨N,R⟩:=bt Y C;exact other y M R
 have Rv:∀q j,(r9 i a d v' cm').gK q j=if q=a/\j=d then v' else i.gK q j:=fun q j=>by
  unfold r9;simp only;by_cases B:q=a
  ·subst B
   rw[bN];by_cases E:j=d
   ·subst E;rw[bN,if_pos ⟨rfl,rfl⟩]
   ·rw[ck _ _ E,if_neg (fun s=>E s.2)]
  ·rw[ck _ _ B,if_neg (fun s=>B s.1)]
 have dh:∀q j,(r9 i a d v' cm').jx q j=if q=a/\j=d then cm' else i.jx q j:=fun q j=>by
  unfold r9;simp only;by_cases B:q=a
  ·subst B
   rw[bN];by_cases E:j=d
   ·subst E;rw[bN,if_pos ⟨rfl,rfl⟩]
   ·rw[ck _ _ E,if_neg (fun s=>E s.2)]
  ·rw[ck _ _ B,if_neg (fun s=>B s.1)]
 have iI:∀q j,(wP h a d b (cm'.map gq.p)).ms q j=if q=a/\j=d then cm'.map gq.p else h.ms q j:=fun q j=>by
  unfold wP;simp only;by_cases B:q=a
  ·subst B
   rw[bN];by_cases E:j=d
   ·subst E;rw[bN,if_pos ⟨rfl,rfl⟩]
   ·rw[ck _ _ E,if_neg (fun s=>E s.2)]
  ·rw[ck _ _ B,if_neg (fun s=>B s.1)]
 have aE:∀c,fh v'=some c->c<n.heap.size:=fun c x=>by obtain⟨N,R⟩:=hJ.lt x;exact aM R
 refine⟨wO,fun t I=>l6 (by decide) (by decide) (r.wait t I),fun t I=>l6 (by decide) (by decide) (r.lost t I),fun t I=>l6 (by decide) (by decide) (r.BL t I),fun t b I ab=>l6 (by decide) (by decide) (r.qq t b I ab),l6 (by decide) (by decide) r.cl,?_,?_,?_,?_,
  fun t I c x=>.inl (r.lw t I c x),fun t I c x=>.inl (r.zL t I c x),fun t I c x=>.inl (r.zM t I c x),fun t b I ab c x=>.inl (r.p5 t b I ab c x),fun c x=>.inl (r.zN c x),fun q z c x=>.inl (r.hh q z c x),?_,r.zO,r.BM,r.zy,r.DW,r.dp,?_,?_,?_,?_,?_,?_⟩
 ·intro q z
  by_cases B:q=a
  ·subst B
   have s:(fun j=>[Value.bool ((wP h q d b (cm'.map gq.p)).sh q j),(r9 i q d v' cm').gK q j])=fun j=>[.bool (upd (h.sh q) d b j),upd (i.gK q) d v' j]:=by
    funext j;unfold wP r9;simp only[bN]
   show n.ownsRow 0 _ 2 (i.cO q) k ((List.range k).flatMap fun j=>[Value.bool ((wP h q d b (cm'.map gq.p)).sh q j),(r9 i q d v' cm').gK q j]);rw[s];exact fb
  ·have s:(fun j=>[Value.bool ((wP h a d b (cm'.map gq.p)).sh q j),(r9 i a d v' cm').gK q j])=fun j=>[.bool (h.sh q j),i.gK q j]:=by
    funext j;unfold wP r9;simp only[ck _ _ B]
   show n.ownsRow 0 _ 2 (i.cO q) k ((List.range k).flatMap fun j=>[Value.bool ((wP h a d b (cm'.map gq.p)).sh q j),(r9 i a d v' cm').gK q j]);rw[s];refine b4 (r.hl q z) fun g C=> ?_
   obtain⟨N,R⟩:=vx q z g C;refine stay g (aM R) (fun x=>r.dp q a z L B g C x) fun x=> ?_
   obtain⟨iy,U⟩:=o9 a d L W g x;exact absurd (bz R U) (by decide)
 ·intro q j z D
  rw[Rv,dh];by_cases B:q=a/\j=d
  ·rw[if_pos B,if_pos B]
   exact hJ
  ·rw[if_neg B,if_neg B]
   refine(r.ao q j z D).af fun g C=> ?_
   obtain⟨N,R⟩:=o9 q j z D g C;refine stay g (aM R) (fun x=> ?_) fun x=>r.zP q j a d z D L W (Decidable.or_iff_not_not_and_not.2 fun s=>B ⟨arC.1 s.1,arC.1 s.2⟩) g C x
   obtain⟨iy,U⟩:=vx a L g x;exact absurd (bz R U) (by decide)
 ·intro q j z D
  rw[dh,iI];split
  ·rfl
  ·exact r.pm q j z D
 ·intro q j z D m hm
  rw[dh]at hm;split at hm
  ·exact IH m hm
  ·obtain⟨y,M,ak⟩:=r.each q j z D m hm
   exact⟨y.gU M ak Ru,fun c x=>oq c (M c x),fun c x=>oq c (ak c x)⟩
 ·intro q j z D c x
  rw[Rv]at x;split at x
  ·rcases c6 c x with y|y
   ·exact .inl (r.pR a d L W c y)
   ·exact .inr ⟨y,x⟩
  ·exact .inl (r.pR q j z D c x)
 ·intro q j lk zQ z D eL nv S c x Q
  rw[Rv]at x Q;split at x
  ·rename_i B
   split at Q
   ·rename_i E
    obtain⟨rfl,rfl⟩:=B;rcases S with S|S
    ·exact S E.1.symm
    ·exact S E.2.symm
   ·obtain⟨rfl,rfl⟩:=B
    rcases c6 c x with y|y
    ·exact r.zP q j lk zQ z D eL nv S c y Q
    ·exact absurd (r.lt c (r.pR lk zQ eL nv c Q)) (by omega)
  ·split at Q
   ·rename_i E
    obtain⟨rfl,rfl⟩:=E;rcases c6 c Q with y|y
    ·exact r.zP q j lk zQ z D eL nv S c x y
    ·exact absurd (r.lt c (r.pR q j z D c x)) (by omega)
   ·exact r.zP q j lk zQ z D eL nv S c x Q
 ·rintro c (x|⟨x,_⟩)
  ·exact r.wM c x
  ·exact fun s=>absurd (r.cx.lt c s) (by omega)
 ·rintro c (x|⟨_,x⟩)
  ·exact aoV (r.lt c x) aF.size
  ·exact aE c x
 ·intro c x
  rcases cT c x with y|y
  ·exact aoV (r.cJ c y) aF.size
  ·exact y.1
 ·intro c x
  rcases cT c x with y|y
  ·exact r.wN c y
  ·exact y.2.1
 ·rintro c x (M|⟨M,ak⟩)
  ·rcases cT c x with y|y
   ·exact r.o8 c y M
   ·exact y.2.2.1 M
  ·rcases cT c x with y|y
   ·exact absurd (r.cJ c y) (by omega)
   ·exact y.2.2.2 ak
theorem Zz {α:Type} (f:α->List Value) (size bytes:Nat) (t e:TypeId) (z:Value) (q:(prog.info? e).map (fun i=>(i.zero,i.size,i.bytes))=some (some z,size,bytes))
  (r:prog.underlying t=some (.slice e)) (w:z.cells.size=size) (B:0<size) (C:∀x,(f x).length=size)
  {p:Array Oper} {o:Oper} {a:Act} {d:Act->World->Prop} {Q:Exit->Act->World->Prop} {E:Prop}
  (D:o.guard=none) (s x:Operand) (F:o.op=.call {callee:=.builtin .append,args:= #[s,x],argTypes:= #[t,t]}) (v:Value) (l:List α) (I:a.eval s=v)
  (L:jP b e size v l.length (l.flatMap f)) (g c:Nat) (y:α) (M:a.eval x=.slice (some (H g)) 1 c)
  (N:∀j u,(f y)[j]?=some u->b.cell? (K g j)=some u) (R:∀u∈f y,u.oneCell'=true) (S:(l.length+1)*bytes<=140737488355328) (tC:l.length<maxLen)
  (h:∀m n,jP n e size m (l.length+1) ((l++[y]).flatMap f)->aP (fun k=>fh v=some k) b n->(∀k,fh m=some k->fh v=some k\/b.heap.size<=k)->d (a.put o.dst m) n):
  if Region.wanted o (yielded p a.tmps)=true then Oper.wp prog o a b d Q else E:=by
 have U:Region.wanted o (yielded p a.tmps)=true:=by simp[Region.wanted,D]
 rw[if_pos U];obtain⟨i,W,X,Y,eW⟩:=info_parts q;obtain⟨m,n,aI,h2,ak,aL⟩:=aja (P:=prog) b t o.type e i z size bytes r W X Y eW w B v l.length (l.flatMap f) L (H g) c (f y) (by rw[C])
  (fun j u hu=>by
   have :((H g):Addr).add j=(K g j):=by unfold Addr.add;split <;>simp_all
   rw[this];exact N j u hu) R (by omega) S
 unfold Oper.wp execOp;simp only[F,resolve,invoke,builtin,apk,apZ,apq,aqL,apb,apU,I,M,aI];exact h m n (by simpa using h2) ak aL
def sa (F L I:Nat->Prop) (k:Nat):Prop:=F k\/L k\/I k
def kK (r N:Nat) (F L I:Nat->Prop) (e:Nat->Value) (w a:World) (f:cq):Prop:=∃b c I' d,da a r b c I' N f d/\c0 (sa F L I) (sa b c I') w a/\(∀k,I k->I' k/\a.heap[k]?=w.heap[k]?)/\d.cO=e
theorem da.left{w}(c:da w a e f j d h i)(g:J w b):kK a d e f j i.cO w b h:=⟨e,f,j,i,c.af g,c0.cQ g,fun k l=>⟨l,g.block k (c.cJ k l)⟩,rfl⟩
theorem da.DY{Q R X l}(q:da b k e f j d h i)(S:Own d h.P h.has a m)(y:gx b n k d i.aN i.aG i.aQ i.aV i.cops i.cp h.has a m l Q R X):kK k d e f j i.cO b n (jB h a (l.map bw.p)):=by
 have Y:X=fun u s=>if u=a/\s=a then(h.P a++l.map bw.p).length else h.has u s:=by
  rw[y.ad];funext u s;by_cases r:u=a/\s=a
  ·simp[r,S.all]
  ·simp only[r,if_false]
 have t:=q.cx;have wO:sZ n k (fun c=>e c\/(b.heap.size<=c/\c<n.heap.size)) d (jB h a (l.map bw.p)).P (jB h a (l.map bw.p)).has i.aN i.aG i.aQ Q R i.cp:=by
  refine⟨by unfold jB;simp only;rw[<-Y];exact y.wr.room,y.wr.apart,?_,.inl t.cd,fun c x=>.inl (t.p8 c x),fun c x=>.inl (t.mr c x),?_,fun u N c x=>.inl (t.qW u N c x),?_,?_⟩
  ·intro s z
   unfold jB;simp only;rw[y.ops];by_cases r:s=a
   ·subst r;rw[bN,bN,ao8,t.ops s z]
   ·rw[ck _ _ r,ck _ _ r,t.ops s z]
  ·intro s z c x
   by_cases r:s=a
   ·subst r
    rcases y.new with U|U
    ·exact .inl (t.qV s z c (by rw[<-U];exact x))
    ·exact .inr ⟨U c x,(aoT (y.wr.room.dZ s z).1 c x).2⟩
   ·rw[y.aB s r]at x
    exact .inl (t.qV s z c x)
  ·intro s z o F c x
   have E:=F;rw[y.ops]at E;by_cases r:s=a
   ·subst r
    rw[bN]at E;rcases aoZ.1 E with E|E
    ·exact .inl (t.fold s z o E c x)
    ·exact .inr ⟨y.AA o E c x,(aoT ((y.wr.room.dZ s z).2 o F) c x).2⟩
   ·rw[ck _ _ r]at E
    exact .inl (t.fold s z o E c x)
  ·intro c x
   rcases x with x|x
   ·exact aoV (t.lt c x) y.size
   ·exact x.2
 have W:∀c,c<b.heap.size->¬e c->n.heap[c]?=b.heap[c]?:=fun c x M=>y.other c x (fun r=>M (t.p8 c r.symm)) (fun r=>M (t.qW a S.hc c r.symm)) (fun r=>M (t.qV a S.hc c r.symm))
 have I:∀c,f c->n.heap[c]?=b.heap[c]?:=fun c x=>W c (q.lt c x) (q.wM c x)
 have z:∀c,j c->n.heap[c]?=b.heap[c]?:=fun c x=>W c (q.cJ c x) (q.wN c x)
 refine⟨fun c=>e c\/(b.heap.size<=c/\c<n.heap.size),f,j,{i with aV:=Q,cops:=R},⟨wO,fun a C=>b4 (q.wait a C) fun g B=>I g (q.lw a C g B),fun a C=>b4 (q.lost a C) fun g B=>I g (q.zL a C g B),fun a C=>b4 (q.BL a C) fun g B=>I g (q.zM a C g B),fun a u C N=>b4 (q.qq a u C N) fun g B=>I g (q.p5 a u C N g B),b4 q.cl fun g B=>I g (q.zN g B),fun s D=>b4 (q.hl s D) fun g B=>I g (q.hh s D g B),fun s v D L=>(q.ao s v D L).af fun g B=>I g (q.pR s v D L g B),q.pm,fun s v D L w F=>⟨(q.each s v D L w F).1.gU (q.each s v D L w F).2.1 (q.each s v D L w F).2.2 z,(q.each s v D L w F).2⟩,q.lw,q.zL,q.zM,q.p5,q.zN,q.hh,q.pR,q.zO,q.BM,q.zy,q.DW,q.dp,q.zP,?_,fun c x=>aoV (q.lt c x) y.size,fun c x=>aoV (q.cJ c x) y.size,?_,q.o8⟩,⟨y.os,y.tape,y.output,y.size,fun c x M=>W c x fun r=>M (.inl r),?_⟩,fun c x=>⟨x,z c x⟩,rfl⟩
 ·rintro c x (r|r)
  ·exact q.wM c x r
  ·exact absurd (q.lt c x) (by omega)
 ·rintro c x (r|r)
  ·exact q.wN c x r
  ·exact absurd (q.cJ c x) (by omega)
 ·rintro c ((r|r)|r|r)
  ·exact .inl (.inl r)
  ·exact .inr r.1
  ·exact .inl (.inr (.inl r))
  ·exact .inl (.inr (.inr r))
theorem aji(c:da b d e f j k h i)(q:Own k h.P h.has a m)(r s n:Int)(p:ByteArray)(x:p.size<=maxLen):
  O 94 #[Z d,A a,.agg #[A r,A s],.string p,A n] b fun o t=>
   (∃g,tS (m.foldl b0 c2) (bZ m) (h.P a).length a (r,s) p n=.error g/\o=.returned (A g)/\kK d k e f j i.cO b t h)\/
   (∃u,tS (m.foldl b0 c2) (bZ m) (h.P a).length a (r,s) p n=.ok u/\o=.returned (A 0)/\kK d k e f j i.cO b t (jB h a u)):=by
 have y:(i.cops a).length=(h.P a).length:=by rw[<-c.cx.ops a q.hc,aoU]
 rw[<-y];refine(afq (c.cx.xW q) q.top r s n p x).mono fun o t z=> ?_
 rcases z with⟨g,v,w,B⟩|⟨u,v,w,l,D,E,F,rfl,C⟩
 ·exact .inl ⟨g,v,w,c.left B⟩
 ·exact .inr ⟨_,v,w,c.DY q C⟩
theorem ajj(c:da b d e f j k h i)(p:Own k h.P h.has a m)(q r:Int)(o:ByteArray)(x:o.size<=maxLen)(s:Bool):
  O 95 #[Z d,A a,.agg #[A q,A r],.string o,.bool s] b fun n t=>
   (∃g,tT (m.foldl b0 c2) (bZ m) (h.P a).length a (q,r) o s=.error g/\n=.returned (.tuple #[.agg #[A 0,A 0],A g])/\kK d k e f j i.cO b t h)\/
   (∃u,tT (m.foldl b0 c2) (bZ m) (h.P a).length a (q,r) o s=.ok u/\n=.returned (.tuple #[.agg #[A (bZ m+1),A a],A 0])/\kK d k e f j i.cO b t (jB h a u)):=by
 have y:(i.cops a).length=(h.P a).length:=by rw[<-c.cx.ops a p.hc,aoU]
 rw[<-y];refine(afs (c.cx.xW p) p.top q r o x s).mono fun n t z=> ?_
 rcases z with⟨g,v,w,B⟩|⟨u,v,w,l,D,E,F,rfl,C⟩
 ·exact .inl ⟨g,v,w,c.left B⟩
 ·exact .inr ⟨_,v,w,c.DY p C⟩
theorem ajk(c:da b d e f j k h i)(p:Own k h.P h.has a m)(q r:Int)(o:ByteArray)(w:o.size<=maxLen):
  O 97 #[Z d,A a,.agg #[A q,A r],.string o] b fun n s=>
   (∃g,sQ (m.foldl b0 c2) (bZ m) (h.P a).length a (q,r) o=.error g/\n=.returned (A g)/\kK d k e f j i.cO b s h)\/
   (∃t,sQ (m.foldl b0 c2) (bZ m) (h.P a).length a (q,r) o=.ok t/\n=.returned (A 0)/\kK d k e f j i.cO b s (jB h a t)):=by
 have x:(i.cops a).length=(h.P a).length:=by rw[<-c.cx.ops a p.hc,aoU]
 rw[<-x];refine(afr (c.cx.xW p) p.top q r o w).mono fun n s y=> ?_
 rcases y with⟨g,u,v,z⟩|⟨t,u,v,l,C,D,E,rfl,B⟩
 ·exact .inl ⟨g,u,v,c.left z⟩
 ·exact .inr ⟨_,u,v,c.DY p B⟩
theorem ajl(c:da b d e f j k h i)(q:Own k h.P h.has a m)(r s g n:Int):
  O 98 #[Z d,A a,.agg #[A r,A s],A g,A n] b fun p t=>
   (∃o,sR (m.foldl b0 c2) (bZ m) (h.P a).length a (r,s) g n=.error o/\p=.returned (.tuple #[.agg #[A 0,A 0],A o])/\kK d k e f j i.cO b t h)\/
   (∃u,sR (m.foldl b0 c2) (bZ m) (h.P a).length a (r,s) g n=.ok u/\p=.returned (.tuple #[.agg #[A (bZ m+1),A a],A 0])/\kK d k e f j i.cO b t (jB h a u)):=by
 have x:(i.cops a).length=(h.P a).length:=by rw[<-c.cx.ops a q.hc,aoU]
 rw[<-x];refine(aft (c.cx.xW q) q.top r s g n).mono fun p t y=> ?_
 rcases y with⟨o,v,w,z⟩|⟨u,v,w,l,C,D,E,rfl,B⟩
 ·exact .inl ⟨o,v,w,c.left z⟩
 ·exact .inr ⟨_,v,w,c.DY q B⟩
theorem ajm(c:da b d e f j k h i)(p:Own k h.P h.has a m)(q r g:Int)(s:Bool):
  O 100 #[Z d,A a,.agg #[A q,A r],A g,.bool s] b fun o t=>
   (∃n,sS (m.foldl b0 c2) (bZ m) (h.P a).length a (q,r) g s=.error n/\o=.returned (.tuple #[.agg #[A 0,A 0],A n])/\kK d k e f j i.cO b t h)\/
   (∃u,sS (m.foldl b0 c2) (bZ m) (h.P a).length a (q,r) g s=.ok u/\o=.returned (.tuple #[.agg #[A (bZ m+1),A a],A 0])/\kK d k e f j i.cO b t (jB h a u)):=by
 have x:(i.cops a).length=(h.P a).length:=by rw[<-c.cx.ops a p.hc,aoU]
 rw[<-x];refine(afx (c.cx.xW p) p.top q r g s).mono fun o t y=> ?_
 rcases y with⟨n,v,w,z⟩|⟨u,v,w,l,C,D,E,rfl,B⟩
 ·exact .inl ⟨n,v,w,c.left z⟩
 ·exact .inr ⟨_,v,w,c.DY p B⟩
theorem ajn(c:da b d e f j k h i)(q:Own k h.P h.has a m)(r s g n:Int):
  O 101 #[Z d,A a,.agg #[A r,A s],A g,A n] b fun p t=>
   (∃o,kE (m.foldl b0 c2) (bZ m) (h.P a).length a (r,s) g 3 n=.error o/\p=.returned (A o)/\kK d k e f j i.cO b t h)\/
   (∃u,kE (m.foldl b0 c2) (bZ m) (h.P a).length a (r,s) g 3 n=.ok u/\p=.returned (A 0)/\kK d k e f j i.cO b t (jB h a u)):=by
 have x:(i.cops a).length=(h.P a).length:=by rw[<-c.cx.ops a q.hc,aoU]
 rw[<-x];refine(afK (c.cx.xW q) q.top r s g n).mono fun p t y=> ?_
 rcases y with⟨o,v,w,z⟩|⟨u,v,w,l,C,D,E,rfl,B⟩
 ·exact .inl ⟨o,v,w,c.left z⟩
 ·exact .inr ⟨_,v,w,c.DY q B⟩
theorem ajo(c:da b d e f j k h i)(p:Own k h.P h.has a m)(q r g:Int):
  O 102 #[Z d,A a,.agg #[A q,A r],A g] b fun o s=>
   (∃n,kE (m.foldl b0 c2) (bZ m) (h.P a).length a (q,r) g 4 0=.error n/\o=.returned (A n)/\kK d k e f j i.cO b s h)\/
   (∃t,kE (m.foldl b0 c2) (bZ m) (h.P a).length a (q,r) g 4 0=.ok t/\o=.returned (A 0)/\kK d k e f j i.cO b s (jB h a t)):=by
 have w:(i.cops a).length=(h.P a).length:=by rw[<-c.cx.ops a p.hc,aoU]
 rw[<-w];refine(afL (c.cx.xW p) p.top q r g).mono fun o s x=> ?_
 rcases x with⟨n,u,v,y⟩|⟨t,u,v,l,B,C,D,rfl,z⟩
 ·exact .inl ⟨n,u,v,c.left y⟩
 ·exact .inr ⟨_,u,v,c.DY p z⟩
theorem da.ZA{W v'}(o:da n q f e j l h i)(u:a<l)(x:d<l){cm':List gq}{I':Nat->Prop}(z:aP (fun c=>fh (i.gK a d)=some c) n W)(F:jP W 251 3 v' cm'.length (cm'.flatMap iv))(S:∀c,fh v'=some c->fh (i.gK a d)=some c\/n.heap.size<=c)(I:∀c,I' c->j c\/(c<W.heap.size/\¬f c/\¬e c/\fh v'≠some c))(U:∀c,j c->I' c)(X:∀m∈cm',rj W m/\(∀c,m.mz.ownBlock=some c->I' c)/\∀c,m.cb.ownBlock=some c->I' c)(B:i.cO a=.slice (some (H k)) l v):
  da (W.setCell (K k (d*2+1)) v') q f (fun c=>e c\/(n.heap.size<=c/\fh v'=some c)) I' l (gJ h a d (cm'.map gq.p)) (r9 i a d v' cm')/\aP e n (W.setCell (K k (d*2+1)) v'):=by
 have w:(i.cO a).ownBlock=some k:=by rw[B];rfl
 obtain⟨Y,C⟩:=bt (o.hl a u) w;have L:k<n.heap.size:=aM C;have M:fh (i.gK a d)≠some k:=fun r=>by
  obtain⟨iy,D⟩:=(o.ao a d u x).lt r;exact absurd (bz C D) (by decide)
 have Rx:W.heap[k]?=some (.cells Y 249 (0,0)):=by rw[z.other k L M];exact C
 have Ry:W.ownsRow 0 249 2 (.slice (some (H k)) l v) l ((List.range l).flatMap fun s=>[.bool (h.sh a s),i.gK a s]):=by
  rw[<-B];exact b4 (o.hl a u) fun g y=>by
   rw[w]at y;injection y with y;subst y;exact z.other k L M
 have N:aP (fun c=>(i.cO a).ownBlock=some c\/fh (i.gK a d)=some c) n (W.setCell (K k (d*2+1)) v'):=(z.mono fun c t=>.inr t).trans (aP.lf v' (.inl w));have hsz:(W.setCell (K k (d*2+1)) v').heap.size=W.heap.size:=by simp
 have P:=o.Ih u x (b:=h.sh a d) (v':=v') (cm':=cm') (I':=I') N (by
   have :=IG Ry (d*2+1) v';rw[Zy (List.range l) d List.nodup_range (by rw[arB x])]at this;rw[B,zS];exact this) (F.af fun c t=>dI fun r=>by
    subst r;obtain⟨iy,D⟩:=F.lt t;exact absurd (bz Rx D) (by decide)) S (fun c t=>by rw[hsz];exact I c t) U (fun m hm=>by
   obtain⟨h1,Q,R⟩:=X m hm;refine⟨h1.gU Q R fun c t=>dI fun r=> ?_,Q,R⟩;subst r;rcases I c t with E|E
   ·exact o.o8 c E (o.hh a u c w)
   ·exact E.2.2.1 (o.hh a u c w))
 rw[ajh]at P;exact⟨P,N.mono fun c t=>t.elim (o.hh a u c) (o.pR a d u x c)⟩
theorem da.stored{W v'}(n:da b l f j e a h i)(x:d<a)(y:k<a){cm':List gq}{I':Nat->Prop}(z:aP (fun c=>fh (i.gK d k)=some c) b W)(B:jP W 251 3 v' cm'.length (cm'.flatMap iv))(C:∀c,fh v'=some c->fh (i.gK d k)=some c\/b.heap.size<=c)(u:∀c,I' c->e c\/(b.heap.size<=c/\c<W.heap.size/\fh v'≠some c))(w:∀c,e c->I' c)(D:∀m∈cm',rj W m/\(∀c,m.mz.ownBlock=some c->I' c)/\∀c,m.cb.ownBlock=some c->I' c)(E:i.cO d=.slice (some (H q)) a v):
  kK l a f j e i.cO b (W.setCell (K q (k*2+1)) v') (gJ h d k (cm'.map gq.p)):=by
 obtain⟨F,r⟩:=n.ZA x y z B C (fun c o=>(u c o).imp id fun g=>⟨g.2.1,fun s=>absurd (n.cx.lt c s) (by omega),fun s=>absurd (n.lt c s) (by omega),g.2.2⟩) w D E;refine⟨_,_,_,_,F,⟨r.os,r.tape,r.output,r.size,fun c o I=>r.other c o fun g=>I (.inr (.inl g)),?_⟩,fun c o=>⟨w c o,r.other c (n.cJ c o) (n.o8 c o)⟩,rfl⟩;rintro c (g|(g|g)|g)
 ·exact .inl (.inl g)
 ·exact .inl (.inr (.inl g))
 ·exact .inr g.1
 ·rcases u c g with t|t
  ·exact .inl (.inr (.inr t))
  ·exact .inr t.1
theorem da.queue(c:da b q e f j l h i)(p:a<l)(r:d<l):∃s t,i.gK a d=.slice s (h.ms a d).length t/\(h.ms a d).length<=t/\(0<(h.ms a d).length->∃g n,s=some (K g n)):=by
 have u:(i.jx a d).length=(h.ms a d).length:=by rw[<-c.pm a d p r,aoU]
 rw[<-u];rcases(c.ao a d p r).at' with⟨m,o,v⟩|⟨g,n,x,y,o,z,w,_⟩
 ·exact⟨m,0,by rw[o,v],by omega,fun k=>by omega⟩
 ·exact⟨_,_,o,w,fun _=>⟨g,n,rfl⟩⟩
theorem da.first{w r F S x}(h:da w r F f e l S x)(j:a<l)(o:d<l){g n s:Nat}{p:jN}{y:List jN}(U:S.ms a d=p::y)(I:x.gK a d=.slice (some (K g v)) (n+1) s)(X:n=y.length):∃m b,x.jx a d=m::b/\m.p=p/\b.map gq.p=y/\rj w m/\w.cell? (K g v)=some (.bool p.q)/\w.cell? (K g (v+1))=some m.mz/\w.cell? (K g (v+2))=some m.cb/\
  ∀{z L:Nat} (M:x.cO a=.slice (some (H z)) l L) (i:Option Addr) (B:0<s-1->i=some (K g (v+3))),kK r l F f e x.cO w (w.setCell (K z (d*2+1)) (.slice i n (s-1))) (gJ S a d y):=by
 have t:=h.pm a d j o;rw[U]at t
 match C:x.jx a d,t with
 |m::b,t=>
  rw[apb]at t;injection t with N D;have P:b.length=n:=by rw[X,<-D,aoU]
  have E:=h.ao a d j o;rw[C,I,apd,P]at E;have u:=E.cell (by omega);obtain⟨g',ai9,Q,_,_,u⟩:=u;simp only[apD,apS,and_true]at Q;obtain⟨rfl,rfl⟩:=Q;have Y:=u 0 (.bool m.p.q) rfl;have ee:=u 1 m.mz rfl;have ew:=u 2 m.cb rfl;refine⟨m,b,rfl,N,D,(h.each a d j o m (by rw[C];simp)).1,by rw[<-N];exact Y,ee,ew,fun{z L} M i B=> ?_⟩;have :=h.stored j o (W:=w) (v':=.slice i n (s-1)) (cm':=b) (I':=e) ⟨rfl,rfl,rfl,aoP _,fun _ _ _=>rfl⟩ (by rw[P];exact E.tail i B) (fun k c=>.inl (by
    rw[I,Mo];by_cases R:s-1=0
    ·rw[R]at c
     cases i<;>simp[fh]at c
    ·rw[B (by omega),Mo,if_neg R]at c
     rw[if_neg (by omega)];exact c)) (fun k c=>.inl c) (fun k c=>c) (fun m' eQ=>h.each a d j o m' (by rw[C];simp[eQ])) M
  rw[D]at this;exact this
theorem jP.form{i}(h:jP b r d s a i):∃c f,s=.slice c a f:=by
 rcases h.at' with⟨c,e,j⟩|⟨g,k,f,l,e,_⟩
 ·exact⟨c,0,by rw[e,j]⟩
 ·exact⟨_,_,e⟩
theorem Rz(h:b.heap[a]?=some (.cells #[s,w,y] r (0,0))):∀j u,[s,w,y][j]?=some u->b.cell? (K a j)=some u:=by
 intro j u c;simp only[World.cell?,h]
 match j,c with
 |0,c=>simpa using c
 |1,c=>simpa using c
 |2,c=>simpa using c
theorem ZB{e b:Option Addr}(g:u.mz=.slice e a k)(h:u.cb=.slice b d l):∀c∈iv u,c.oneCell'=true:=by
 intro c f;simp only[iv,g,h,ao3,aq9,or_false]at f;rcases f with rfl|rfl|rfl<;>rfl
theorem da.ZC{W v'}(r:da n q j f e k h i)(t:d<k)(w:a<k)(M:J n b)(N:aP (fun c=>fh (i.gK d a)=some c) b W)(C:jP W 251 3 v' ((i.jx d a).length+1) ((i.jx d a++[u]).flatMap iv))(c6:∀c,fh v'=some c->fh (i.gK d a)=some c\/b.heap.size<=c)(B:rj b u)(P:∀c,u.mz.ownBlock=some c->e c\/(¬j c/\¬f c))(Q:∀c,u.cb.ownBlock=some c->e c\/(¬j c/\¬f c))(aH:i.cO d=.slice (some (H l)) k v):
  ∃R I',da (W.setCell (K l (a*2+1)) v') q j R I' k (gJ h d a (h.ms d a++[u.p])) (r9 i d a v' (i.jx d a++[u]))/\aP f n (W.setCell (K l (a*2+1)) v')/\(∀c,R c->f c\/n.heap.size<=c)/\(∀c,e c->I' c)/\∀c,I' c->e c\/u.mz.ownBlock=some c\/u.cb.ownBlock=some c:=by
 have S:aP (fun c=>fh (i.gK d a)=some c) n W:=(aP.cQ M).trans N;have U:∀c,c<b.heap.size->(e c\/(¬j c/\¬f c))->W.heap[c]?=b.heap[c]?:=fun c s y=>N.other c s fun o=>by
  rcases y with y|y
  ·exact r.o8 c y (r.pR d a t w c o)
  ·exact y.2 (r.pR d a t w c o)
 have D:kJ 0 W u.mz u.p.heard:=b4 B.1 fun g z=>U g (aoT B.1 g z).2 (P g z)
 have E:jA 0 W u.cb u.p.refs:=b4 B.2 fun g z=>U g (aoT B.2 g z).2 (Q g z)
 have cT:∀c,(e c\/u.mz.ownBlock=some c\/u.cb.ownBlock=some c)->e c\/(c<W.heap.size/\¬j c/\¬f c/\fh v'≠some c):=fun c s=>by
  rcases s with s|s|s
  ·exact .inl s
  ·rcases P c s with o|o
   ·exact .inl o
   ·refine .inr ⟨(aoT D c s).2,o.1,o.2,fun F=> ?_⟩
    obtain⟨cur,I⟩:=C.lt F;obtain⟨iy,L⟩:=bt D s;exact absurd (bz I L) (by decide)
  ·rcases Q c s with o|o
   ·exact .inl o
   ·refine .inr ⟨(aoT E c s).2,o.1,o.2,fun F=> ?_⟩
    obtain⟨cur,I⟩:=C.lt F;obtain⟨iy,L⟩:=bt E s;exact absurd (bz I L) (by decide)
 have :=r.ZA t w (W:=W) (v':=v') (cm':=i.jx d a++[u]) (I':=fun c=>e c\/u.mz.ownBlock=some c\/u.cb.ownBlock=some c) S (by rw[aoW];exact C) (fun c s=>(c6 c s).imp id fun o=>aoS M.size o) cT (fun c s=>.inl s) (fun m x=>by
  rcases aoZ.1 x with x|x
  ·obtain⟨h1,X,Y⟩:=r.each d a t w m x
   exact⟨h1.gU X Y fun c s=>S.other c (r.cJ c s) fun o=>r.o8 c s (r.pR d a t w c o),fun c s=>.inl (X c s),fun c s=>.inl (Y c s)⟩
  ·rw[ao2]at x
   subst x;exact⟨⟨D,E⟩,fun c s=>.inr (.inl s),fun c s=>.inr (.inr s)⟩) aH
 rw[ao8,r.pm d a t w]at this;exact⟨_,_,this.1,this.2,fun c s=>s.imp id (·.1),fun c s=>.inl s,fun c s=>s⟩
theorem da.RC{W}(m:da b l f j e k h i)(y:a<k)(z:d<k)(B:J b n)(C:aP (fun c=>fh (i.gK a d)=some c) n W)(D:jP W 251 3 s ((i.jx a d).length+1) ((i.jx a d++[u]).flatMap iv))(E:∀c,fh s=some c->fh (i.gK a d)=some c\/n.heap.size<=c)(F:rj n u)(t:∀c,u.mz.ownBlock=some c->e c\/b.heap.size<=c)(w:∀c,u.cb.ownBlock=some c->e c\/b.heap.size<=c)(I:i.cO a=.slice (some (H q)) k v):
  kK l k f j e i.cO b (W.setCell (K q (d*2+1)) s) (gJ h a d (h.ms a d++[u.p])):=by
 have x:∀c,b.heap.size<=c->¬f c/\¬j c:=fun c o=>⟨fun g=>absurd (m.cx.lt c g) (by omega),fun g=>absurd (m.lt c g) (by omega)⟩
 obtain⟨R,S,L,r,M,N,P⟩:=m.ZC y z B C D E F (fun c o=>(t c o).imp id (x c)) (fun c o=>(w c o).imp id (x c)) I;refine⟨_,_,_,_,L,⟨r.os,r.tape,r.output,r.size,fun c o Q=>r.other c o fun g=>Q (.inr (.inl g)),?_⟩,fun c o=>⟨N c o,r.other c (m.cJ c o) (m.o8 c o)⟩,rfl⟩;rintro c (g|g|g)
 ·exact .inl (.inl g)
 ·rcases M c g with g|g
  ·exact .inl (.inr (.inl g))
  ·exact .inr g
 ·rcases P c g with g|g|g
  ·exact .inl (.inr (.inr g))
  ·rcases t c g with g|g
   ·exact .inl (.inr (.inr g))
   ·exact .inr g
  ·rcases w c g with g|g
   ·exact .inl (.inr (.inr g))
   ·exact .inr g
theorem ajp{w S}(h:da w d e f j a S i)(c b:Nat)(l:c<a)(r:b<a)(bF:c≠b):
  O 113 #[Z d,A c,A b] w fun g w'=>g=.returned (A (if S.sh c b=true then 10 else if 12<=(S.ms c b).length then 8 else 0))/\kK d a e f j i.cO w w' (DU a S c b):=by
 have L:=aa (Rs h c b l r bF);obtain⟨zR,qd,y,gV,_,_,_,_,z,ee,s⟩:=h.DX l r;obtain⟨D,E,t,BN,wg⟩:=h.queue l r;have j8:=aa t;rw[t]at s;have M:=aa h;have b3:(i.cO c).ownBlock=some y:=by rw[z];rfl
 obtain⟨cur,F⟩:=bt (h.hl c l) b3;have aT:=aa F;have N:=aa (show fh (.slice D (S.ms c b).length E)≠some y from fun g=>by
  rw[<-t]at g;obtain⟨iy,P⟩:=(h.ao c b l r).lt g;exact absurd (bz F P) (by decide))
 have cP:=aM F;unfold DU;clear BN wg b3 F;by_cases p:S.sh c b=true
 ·rw[if_pos p,if_pos (.inl p)]
  rw[p]at ee;clear p h t;go_enter func113,ntmps113;go_wp2_with fail
  refine L.o.mono ?_;rintro g Q ⟨⟨IE,IF,m,rfl⟩,rfl⟩;rw[z]at m;simp only[apo,apD,apS,and_true,true_and]at m;obtain⟨rfl,rfl⟩:=m;go_wp2;go_ret
  exact⟨rfl,M.o.left (aoQ _ _)⟩
 ·rw[if_neg p]
  have R:S.sh c b=false:=by cases g:S.sh c b with |false=>rfl|true=>exact absurd g p
  rw[R]at ee;obtain⟨n,v⟩:∃n,n=(S.ms c b).length:=⟨_,rfl⟩;rw[<-v]at s;by_cases x:12<=(S.ms c b).length
  ·rw[if_pos x,if_pos (.inr x)]
   have II:(12:Int)<=(n:Int):=by omega
   clear p R h t v x;go_enter func113,ntmps113;go_wp2_with fail
   refine L.o.mono ?_;rintro g Q ⟨⟨IE,IF,m,rfl⟩,rfl⟩;rw[z]at m;simp only[apo,apD,apS,and_true,true_and]at m;obtain⟨rfl,rfl⟩:=m;go_wp2;go_ret
   exact⟨rfl,M.o.left (aoQ _ _)⟩
  ·rw[if_neg x,if_neg (fun g=>g.elim p x)]
   have II:¬((12:Int)<=(n:Int)):=by omega
   have hN:=h.cx.room.hN;have bd:=h.cx.room.bd;obtain⟨gO,p1,c8,eX,Oc,IJ,_,EE,_,cells⟩:=h.cx.room.row (by omega);rw[IJ]at bd;have dG:=cells c l;have p3:(0:Int)<=(c:Int):=ao0 _;have kx:(c:Int)<(a:Int):=by omega
   obtain⟨gH,nf,Ax,_,_⟩:=h.cx.room.Cp l;have IC:=aa (fun W (ab:J w W)=>Zx (w:=W) (c5 (h.cx.room.nums l) ab) (by simp;omega));rw[Ax]at dG IC;have hlen:(i.jx c b).length=n:=by rw[v,<-h.pm c b l r,aoU]
   have qQ:=aa hlen;have F7:=aa (show n<12 by omega);have U:=aa (show i.gK c b=.slice D n E by rw[v];exact t);rw[<-v]at N;have k9:=aa (show J w w.drew from(aoQ _ w).drew);have IK:=aa (show jP w 251 3 (.slice D n E) (i.jx c b).length ((i.jx c b).flatMap iv) by rw[<-U.o];exact h.ao c b l r);clear p R h t v x hlen IJ Oc Ax cells j8;go_enter func113,ntmps113;go_wp2_with fail
   refine L.o.mono ?_;rintro g Q ⟨⟨IE,IF,m,rfl⟩,rfl⟩;rw[z]at m;simp only[apo,apD,apS,and_true,true_and]at m;obtain⟨rfl,rfl⟩:=m;go_wp2_with fail
   go_region_law (first
    |(go_simp;go_at_call 154;refine(IC.o _ k9.o).mono ?_;rintro g q ⟨u,rfl,hu,a8⟩;have B:=Hq.o (mq a8);clear a8;replace s:=af B s;have mM:=B.size;have De:y<q.heap.size:=(by omega);have Wr:=World.new_ne q (K y (b*2+1)) s;have ez:=aa (bj aT.o B);have bK:=aa B;have X:=aa hu;clear B hu;obtain⟨Y,kC,oU,hu4,hu5,hu6⟩:=bp X.o;rw[aoU,ap4]at oU;subst oU;clear hu4 hu5 hu6;have bM:=aa (show J q (q.alloc (.cells #[.bool true,.slice Y a kC,.slice none 0 0] 251)) from(aoQ _ q).alloc (aoP _) _);have ZF:=aa (show J Q (q.alloc (.cells #[.bool true,.slice Y a kC,.slice none 0 0] 251)) from bK.o.trans (bM.o.mono bK.o.size));dsimp only)
    |(refine Zz iv 3 56 247 251 (.agg #[.bool false,.slice none 0 0,.slice none 0 0]) (by kernel_rfl) underlying247 rfl (by omega) (fun _=>rfl) (by rfl) (.tmp 36) (.tmp 47) (by rfl) (.slice D n E) (i.jx c b) (by rfl) (IK.o.af fun k C=>ZF.o.block k (by obtain⟨iy,P⟩:=IK.o.lt C;exact aM P)) q.heap.size 1 ⟨⟨true,(List.range a).map (S.has c),[]⟩,.slice Y a kC,.slice none 0 0⟩ (by rfl) (Rz (bL q _)) (ZB rfl rfl) (by rw[qQ.o];have :=F7.o;omega) (by rw[qQ.o];have :=F7.o;unfold maxLen;omega) ?_;intro v4 w4 hj I gp;have eE:=aa hj;have kF:=aa I;have jw:=aa gp;have gn:=aa ((I.other y (by simp;omega) N.o).trans ((hV _ _ De).trans ez.o));replace s:=I.cell N.o (af bM.o s);clear hj I gp;obtain⟨a4,kc,rfl⟩:=eE.o.form;have vH:=cS gn.o (b*2+1)))
   all_goals go_wp2
   all_goals go_ret
   all_goals(
    refine⟨rfl,?_⟩;have :=M.o.RC l r ZF.o (by rw[U.o];exact kF.o) eE.o (by rw[U.o];exact jw.o) ⟨c5 (gC X.o (aoR _)) bM.o,ao9 _ _ _ _⟩ (fun k C=>.inr (aoT X.o k C).1) (fun k C=>by cases C) z;exact this)
def yq (B:Nat) (w:World) (v:Value) (l:List gq):Prop:=w.ownsRow B 251 3 v l.length (l.flatMap iv)
theorem ajq{g:Array Oper}{rest:List Oper}{o:Oper}{a:Act}{Q:Exit->Act->World->Prop}(i:o.guard=none)(s x:Operand)(j:o.op=.call {callee:=.builtin .append,args:= #[s,x],argTypes:= #[247,247]})(B:Nat)(v:Value)(l c:List gq)(k:a.eval s=v)(m:yq B b v l)(f:Value)(n:a.eval x=f)(p:uw b iv f c)(q:∀u∈c.flatMap iv,u.oneCell'=true)(y:l.length+c.length<10000000)(r:B<=b.heap.size)(h:∀e d,yq B d e (l++c)->b.grownBy d v.ownBlock->wpList prog g Q rest (a.put o.dst e) d):wpList prog g Q (o::rest) a b:=
 Gv iv 3 56 247 251 (.agg #[.bool false,.slice none 0 0,.slice none 0 0]) (by kernel_rfl) underlying247 rfl (by omega) (fun _=>rfl)
  i s x j B v l c k m f n p q (by omega) (by unfold maxLen;omega) r (fun e d t w=>h e d (by unfold yq;simpa using t) w)
theorem ajr{m:gq}(d:iv m=[s,w,y])(h:b.heap[a]?=some (.cells #[s,w,y] r (0,0))):uw b iv (.slice (some (H a)) 1 1) [m]:=
 .inr ⟨_,_,rfl,fun j u c=>by
  have :((H a):Addr).add j=(K a j):=by unfold Addr.add;split <;>simp_all
  rw[this];rw[ape,aq8,apu,d]at c;exact Rz h j u c⟩
end Go.Proofs.YtnkpogjiiohapaaGreatDoor
