/- Our own text. -/
import Derived.Test.YtnkpogjiiohapaaGreatDoorA29
set_option linter.unusedSimpArgs false
set_option linter.unusedVariables false
set_option maxRecDepth 1000000
set_option maxHeartbeats 800000
namespace Go.Proofs.YtnkpogjiiohapaaGreatDoor
open Go.RowKit Tryz
variable {a b e l m r:Nat}{d q:World}{f i j:Nat->Prop}{h:fm}{k:cq}{n:List (Nat×Nat)}
theorem ajs(a b c d:Int)(W:World):(binOp .eql 258 (.agg #[A a,A b]) (.agg #[A c,A d])).run prog W=.ok (.bool (et a b c d)) W:=by
 go_simp;unfold et;by_cases e:a=c<;>by_cases f:b=d<;>simp[e,f]
theorem jA.cells{w:World}{g n cap:Nat}{l:List (Nat×Nat)}(h:w.ownsRow a 258 2 (.slice (some (H g)) n cap) n (l.flatMap um))(b:n=l.length)(i:Nat)(c:i<l.length):w.cell? (K g (i*2))=some (A (l[i].1:Int))/\w.cell? (K g (i*2+1))=some (A (l[i].2:Int)):=by
 have d:=iw (f:=um) (k:=2) (fun _=>rfl) h b i c 0 (by omega);have e:=iw (f:=um) (k:=2) (fun _=>rfl) h b i c 1 (by omega);simp[um]at d e;exact⟨d,e⟩
theorem ZG(p q r:Option Addr)(s t u x y z:Nat)(v:Value)(l:List (Nat×Nat))(b c:Nat)(w:World)(h:jA 0 w v l):
  O 195 #[.agg #[.slice p s x,v,.slice q t y,.slice r u z],.agg #[A b,A c]] w fun e E=>
   e=.returned (.bool (decide ((b,c)∈l)))/\J w E:=by
 obtain⟨a,F,rfl,R,I,B⟩:=bp h;unfold maxLen at I;have L:=aa (B);clear B;have M:=aa (h);clear h;go_enter func195,ntmps195;go_wp2;go_loopw [5] (fun i wr=>∃k:Nat,k<=l.length/\i=A k/\Hq (∀j (d:j<l.length),j<k->l[j]≠(b,c))/\∃n,wr=((w.alloc (.cells #[.slice p s x,.slice a l.length F,.slice q t y,.slice r u z] 225)).alloc (.cells #[A b,A c] 258)).drewN n) (fun i _=>l.length-(intOf i).toNat)
 case atStart=>exact⟨0,aoR _,rfl,fun _ _ h=>absurd h (ap5 _),0,rfl⟩
 case round=>
  obtain⟨k,S,rfl,C,n,rfl⟩:=hrel;by_cases D:k<l.length
  ·obtain⟨g,rfl⟩:=L.o k D
   obtain⟨N,U⟩:=jA.cells M.o rfl k D;have heq:=ajs;have W:g<w.heap.size:=ao4 w _ N;have X:g≠w.heap.size:=by omega
   have Y:g≠w.heap.size+1:=by omega
   have h5:(0:Int)<=(k:Int):=ao0 _;have eh:(k:Int)<(l.length:Int):=by omega
   go_wp2;go_region
   cases f:et (l[k].1:Int) (l[k].2:Int) b c
   ·go_wp2
    go_roundw
    case rel=>
     refine⟨k+1,by omega,by go_num,fun j d n3 e=> ?_,_,rfl⟩;by_cases P:j=k
     ·subst P
      rw[yx,e]at f;exact f rfl
     ·exact C.o j d (by omega) e
    case measure=>simp[intOf];omega
   ·go_wp2
    go_ret
    refine⟨l9 ?_,below_drewN (((aoQ _ _).alloc (aoP _) _).alloc (by simp) _) _⟩;have m:=B6.1 f;simp only[aqC,Int.ofNat_inj]at m
    symm
    rw[decide_eq_true_eq];have :l[k]=(b,c):=Prod.ext m.1 m.2;rw[<-this];exact aoY _
  ·go_wp2
   go_ret
   refine⟨l9 ?_,below_drewN (((aoQ _ _).alloc (aoP _) _).alloc (by simp) _) _⟩
   symm
   rw[decide_eq_false_iff_not];intro Q;obtain⟨j,d,e⟩:=apl.1 Q;exact C.o j d (by omega) e
theorem ZH{cp:Nat->Nat->Value}{d:Nat}{v:Value}:∀(l:List Nat) (i:Nat),l.Nodup->l[i]?=some d->(l.flatMap fun c=>[cp c 0,cp c 1,cp c 2,cp c 3]).set (i*4+1) v=l.flatMap fun c=>[upd cp d (upd (cp d) 1 v) c 0,upd cp d (upd (cp d) 1 v) c 1,upd cp d (upd (cp d) 1 v) c 2,upd cp d (upd (cp d) 1 v) c 3]
 |[],_,_,h=>by simp at h
 |y::l,0,a,h=>by
  simp only[aqb,apD]at h;subst h;have b:y∉l:=(apg.1 a).1;have e:(l.flatMap fun c=>[cp c 0,cp c 1,cp c 2,cp c 3])=l.flatMap fun c=>[upd cp y (upd (cp y) 1 v) c 0,upd cp y (upd (cp y) 1 v) c 1,upd cp y (upd (cp y) 1 v) c 2,upd cp y (upd (cp y) 1 v) c 3]:=Rt fun j f=>by
   rw[ck];rintro rfl;exact b f
  simp only[ape,apC,apN,aqM,List.set_cons_zero,Nat.zero_mul,apF,bN];rw[e];rfl
 |y::l,i+1,a,h=>by
  simp only[aqW]at h;have b:y≠d:=by
   rintro rfl;exact(apg.1 a).1 (aq0 h)
  have ih:=ZH (cp:=cp) (v:=v) l i (apg.1 a).2 h;rw[show(i+1)*4+1=(i*4+1)+1+1+1+1 by omega];simp only[ape,apC,apN,aqM];rw[ih,ck _ _ b]
def mC (S:cq) (c:Nat) (l:List (Nat×Nat)):cq:={S with wait:=upd S.wait c l}
def ZI (x:fm) (c:Nat) (v:Value):fm:={x with cp:=upd x.cp c (upd (x.cp c) 1 v)}
def ow (S:cq) (c d n:Nat):cq:={S with has:=upd S.has c (upd (S.has c) d n)}
theorem wQ{c:Nat->Nat->Value}{v:Value}(b j:Nat)(d:j≠1):upd c a (upd (c a) 1 v) b j=c b j:=by
 by_cases e:b=a
 ·subst e;rw[bN,ck _ _ d]
 ·rw[ck _ _ e]
theorem da.Mp{I S}(g:da d e i j I b S h)(p:a<b):∃m n,h.aG=.slice (some (H m)) b n/\b<=n/\n<=maxLen/\d.cell? (K e 2)=some (.slice (some (H m)) b n)/\d.cell? (K m (a*4))=some (h.cp a 0)/\d.cell? (K m (a*4+1))=some (h.cp a 1)/\d.cell? (K m (a*4+2))=some (h.cp a 2)/\d.cell? (K m (a*4+3))=some (h.cp a 3):=by
 have o:=g.cx.room.fx;obtain⟨l,n,q,s,t,v⟩:=bp o;obtain⟨m,rfl⟩:=v a p;have r:=g.cx.room.bd;rw[q]at o r;have k:∀c u,[h.cp a 0,h.cp a 1,h.cp a 2,h.cp a 3][c]?=some u->c<4->d.cell? (K m (a*4+c))=some u:=fun c u w x=>by
  have :=iw (f:=fun a=>[h.cp a 0,h.cp a 1,h.cp a 2,h.cp a 3]) (k:=4) (fun _=>rfl) o (by simp) a (by simpa using p) c x;rw[this];simp only[List.getElem_range];exact w
 exact⟨m,n,q,s,t,r,k 0 _ rfl (by omega),k 1 _ rfl (by omega),k 2 _ rfl (by omega),k 3 _ rfl (by omega)⟩
theorem da.ajt{l'}(p:da q e f j i b k h)(hc:a<b){v':Value}(aF:aP (fun c=>h.aG.ownBlock=some c\/(h.cp a 1).ownBlock=some c) q d)(IM:d.ownsRow 0 225 4 h.aG b ((List.range b).flatMap fun s=>[upd h.cp a (upd (h.cp a) 1 v') s 0,upd h.cp a (upd (h.cp a) 1 v') s 1,upd h.cp a (upd (h.cp a) 1 v') s 2,upd h.cp a (upd (h.cp a) 1 v') s 3]))(DZ:jA 0 d v' l')(c6:∀c,v'.ownBlock=some c->(h.cp a 1).ownBlock=some c\/q.heap.size<=c):
  da d e f (fun c=>j c\/(q.heap.size<=c/\v'.ownBlock=some c)) i b (mC k a l') (ZI h a v'):=by
 have s:=p.cx;have ZJ:∀c,h.aG.ownBlock=some c->∃L,q.heap[c]?=some (.cells L 225 (0,0)):=fun c x=>bt s.room.fx x
 have tr:∀l,l<b->∀c,(h.cp l 1).ownBlock=some c->∃L,q.heap[c]?=some (.cells L 258 (0,0)):=fun l y c x=>bt (p.wait l y) x
 have stay:∀c,c<q.heap.size->(h.aG.ownBlock≠some c)->(h.cp a 1).ownBlock≠some c->d.heap[c]?=q.heap[c]?:=fun c x S Q=>aF.other c x fun r=>r.elim S Q
 have other:∀{r:TypeId} {c:Nat} {L:Array Value},r≠225->r≠258->q.heap[c]?=some (.cells L r (0,0))->d.heap[c]?=q.heap[c]?:=fun{r c L} S Q F=>stay c (aM F)
  (fun x=>by obtain⟨iy,X⟩:=ZJ c x;exact S (bz F X))
  (fun x=>by obtain⟨iy,X⟩:=tr a hc c x;exact Q (bz F X))
 have M:∀{r:TypeId} {c n:Nat} {v:Value} {xs:List Value},r≠225->r≠258->q.ownsRow 0 r c v n xs->d.ownsRow 0 r c v n xs:=fun{r c n v xs} S Q ae=>b4 ae fun g F=>by
  obtain⟨L,U⟩:=bt ae F;exact other S Q U
 have Ru:∀c,i c->d.heap[c]?=q.heap[c]?:=fun c x=>stay c (p.cJ c x) (fun r=>p.wN c x (s.mr c r)) (fun r=>p.o8 c x (p.lw a hc c r))
 have wO:sZ d e f b (mC k a l').P (mC k a l').has h.aN h.aG h.aQ h.aV h.cops (upd h.cp a (upd (h.cp a) 1 v')):=by
  refine⟨⟨by rw[other (by decide) (by decide) s.room.aI];exact s.room.aI,s.room.hN,M (by decide) (by decide) s.room.hq,fun t C=>⟨M (by decide) (by decide) (s.room.dZ t C).1,fun o ae=>M (by decide) (by decide) ((s.room.dZ t C).2 o ae)⟩,IM,fun l y=>by rw[wQ _ _ (by decide)];exact M (by decide) (by decide) (s.room.hH l y),s.room.hle,s.room.hsz⟩,⟨s.apart.ops,fun l B y I R=>by rw[wQ _ _ (by decide),wQ _ _ (by decide)];exact s.apart.has l B y I R⟩,s.ops,s.cd,s.p8,s.mr,s.qV,fun l y c x=>s.qW l y c (by rw[wQ _ _ (by decide)]at x;exact x),s.fold,fun c x=>aoV (s.lt c x) aF.size⟩
 have Y:∀l,l≠a->upd h.cp a (upd (h.cp a) 1 v') l 1=h.cp l 1:=fun l y=>by rw[ck _ _ y]
 have aw:upd h.cp a (upd (h.cp a) 1 v') a 1=v':=by rw[bN,bN]
 refine⟨wO,fun l y=> ?_,fun l y=> ?_,fun l y=> ?_,fun l w y ai=>M (by decide) (by decide) (p.qq l w y ai),M (by decide) (by decide) p.cl,fun t C=>M (by decide) (by decide) (p.hl t C),fun t u C W=>(p.ao t u C W).af fun g F=> ?_,p.pm,fun t u C W m hm=> ?_,
  fun l y c x=> ?_,fun l y c x=>.inl (p.zL l y c ?_),fun l y c x=>.inl (p.zM l y c ?_),fun l w y ai c x=>.inl (p.p5 l w y ai c x),fun c x=>.inl (p.zN c x),fun t C c x=>.inl (p.hh t C c x),fun t u C W c x=>.inl (p.pR t u C W c x),?_,p.BM,?_,?_,p.dp,p.zP,?_,?_,fun c x=>aoV (p.cJ c x) aF.size,p.wN,?_⟩
 ·by_cases r:l=a
  ·subst r
   show jA 0 d (upd h.cp l (upd (h.cp l) 1 v') l 1) (upd k.wait l l' l);rw[aw,bN];exact DZ
  ·show jA 0 d (upd h.cp a (upd (h.cp a) 1 v') l 1) (upd k.wait a l' l)
   rw[Y l r,ck _ _ r];refine b4 (p.wait l y) fun g F=> ?_
   obtain⟨L,U⟩:=tr l y g F;exact stay g (aM U) (fun x=>by obtain⟨iy,X⟩:=ZJ g x;exact absurd (bz U X) (by decide)) (fun x=>p.zO l a y hc r g F x)
 ·show kJ 0 d (upd h.cp a (upd (h.cp a) 1 v') l 2) _
  rw[wQ _ _ (by decide)];exact M (by decide) (by decide) (p.lost l y)
 ·show d.ownsRow 0 _ 1 (upd h.cp a (upd (h.cp a) 1 v') l 3) b _
  rw[wQ _ _ (by decide)];exact M (by decide) (by decide) (p.BL l y)
 ·obtain⟨L,U⟩:=(p.ao t u C W).lt F
  exact other (by decide) (by decide) U
 ·obtain⟨S,Q,ak⟩:=p.each t u C W m hm
  exact⟨S.gU Q ak Ru,Q,ak⟩
 ·have z:(upd h.cp a (upd (h.cp a) 1 v') l 1).ownBlock=some c:=x
  by_cases r:l=a
  ·subst r
   rw[aw]at z;rcases c6 c z with E|E
   ·exact .inl (p.lw l y c E)
   ·exact .inr ⟨E,z⟩
  ·rw[Y l r]at z
   exact .inl (p.lw l y c z)
 ·have z:(upd h.cp a (upd (h.cp a) 1 v') l 2).ownBlock=some c:=x
  rw[wQ _ _ (by decide)]at z;exact z
 ·have z:(upd h.cp a (upd (h.cp a) 1 v') l 3).ownBlock=some c:=x
  rw[wQ _ _ (by decide)]at z;exact z
 ·intro l B y I R c x z
  have N:(upd h.cp a (upd (h.cp a) 1 v') l 1).ownBlock=some c:=x;have D:(upd h.cp a (upd (h.cp a) 1 v') B 1).ownBlock=some c:=z;by_cases r:l=a
  ·subst r
   rw[aw]at N;rw[Y B (fun r=>R r.symm)]at D;rcases c6 c N with E|E
   ·exact p.zO l B y I R c E D
   ·exact absurd (p.lt c (p.lw B I c D)) (by omega)
  ·rw[Y l r]at N
   by_cases E:B=a
   ·subst E
    rw[aw]at D;rcases c6 c D with E|E
    ·exact p.zO l B y I R c N E
    ·exact absurd (p.lt c (p.lw l y c N)) (by omega)
   ·rw[Y B E]at D
    exact p.zO l B y I R c N D
 ·intro l B y I R c x z
  have N:(upd h.cp a (upd (h.cp a) 1 v') l 2).ownBlock=some c:=x;have D:(upd h.cp a (upd (h.cp a) 1 v') B 2).ownBlock=some c:=z;rw[wQ _ _ (by decide)]at N D;exact p.zy l B y I R c N D
 ·intro l w B y ai I c x z
  have D:(upd h.cp a (upd (h.cp a) 1 v') B 2).ownBlock=some c:=z;rw[wQ _ _ (by decide)]at D;exact p.DW l w B y ai I c x D
 ·rintro c (x|⟨x,_⟩)
  ·exact p.wM c x
  ·exact fun r=>absurd (s.lt c r) (by omega)
 ·rintro c (x|⟨_,x⟩)
  ·exact aoV (p.lt c x) aF.size
  ·exact(aoT DZ c x).2
 ·rintro c x (r|⟨r,_⟩)
  ·exact p.o8 c x r
  ·exact absurd (p.cJ c x) (by omega)
theorem da.waited{v' l'}(o:da q l f j i e k h)(r:a<e)(t:aP (fun n=>(h.cp a 1).ownBlock=some n) q d)(z:jA 0 d v' l')(F:∀n,v'.ownBlock=some n->(h.cp a 1).ownBlock=some n\/q.heap.size<=n)(u:h.aG=.slice (some (H b)) e m):
  ∃B,da (d.setCell (K b (a*4+1)) v') l f B i e (mC k a l') (ZI h a v')/\c0 (sa f j i) (sa f B i) q (d.setCell (K b (a*4+1)) v'):=by
 have v:h.aG.ownBlock=some b:=by rw[u];rfl
 obtain⟨I,w⟩:=bt o.cx.room.fx v;have C:b<q.heap.size:=aM w;have D:(h.cp a 1).ownBlock≠some b:=fun c=>by
  obtain⟨L,x⟩:=bt (o.wait a r) c;exact absurd (bz w x) (by decide)
 have M:d.heap[b]?=some (.cells I 225 (0,0)):=by rw[t.other b C D];exact w
 have N:d.ownsRow 0 225 4 (.slice (some (H b)) e m) e ((List.range e).flatMap fun a=>[h.cp a 0,h.cp a 1,h.cp a 2,h.cp a 3]):=by
  rw[<-u];exact b4 o.cx.room.fx fun g s=>by
   rw[v]at s;injection s with s;subst s;exact t.other b C D
 have p:aP (fun n=>h.aG.ownBlock=some n\/(h.cp a 1).ownBlock=some n) q (d.setCell (K b (a*4+1)) v'):=(t.mono fun n y=>.inr y).trans (aP.lf v' (.inl v));have P:=o.ajt r (v':=v') (l':=l') p (by
   have :=IG N (a*4+1) v';rw[ZH (cp:=h.cp) (List.range e) a List.nodup_range (by rw[arB r])]at this;rw[u];exact this) (iW z (fun c=>by
    obtain⟨L,x⟩:=bt z c;exact absurd (bz M x) (by decide)) v') F
 refine⟨_,P,⟨p.os,p.tape,p.output,p.size,fun n y E=>p.other n y fun c=> ?_,?_⟩⟩
 ·rcases c with c|c
  ·exact E (.inl (o.cx.mr n c))
  ·exact E (.inr (.inl (o.lw a r n c)))
 ·rintro n (c|(c|c)|c)
  ·exact .inl (.inl c)
  ·exact .inl (.inr (.inl c))
  ·exact .inr c.1
  ·exact .inl (.inr (.inr c))
theorem da.aju{I}(c:da d r i j I m k h)(z:a<m)(U:b<m)(hn:e<=(k.P b).length){nf:Nat}(W:h.cp a 0=.slice (some (H l)) m nf):da (d.setCell (K l b) (A e)) r i j I m (ow k a b e) h/\c0 (sa i j I) (sa i j I) d (d.setCell (K l b) (A e)):=by
 have q:=c.cx;have X:(h.cp a 0).ownBlock=some l:=by rw[W];rfl
 have hF:i l:=q.qW a z l X;obtain⟨cur,cH⟩:=bt (q.room.hH a z) X;have L:aP (fun n=>n=l) d (d.setCell (K l b) (A e)):=aP.lf _ rfl;have D:∀n,j n->(d.setCell (K l b) (A e)).heap[n]?=d.heap[n]?:=fun n B=>dI fun s=>c.wM n B (s▸hF)
 have M:∀n,I n->(d.setCell (K l b) (A e)).heap[n]?=d.heap[n]?:=fun n B=>dI fun s=>c.wN n B (s▸hF)
 have other:∀{s:TypeId} {n:Nat} {cur:Array Value},s≠3->d.heap[n]?=some (.cells cur s (0,0))->(d.setCell (K l b) (A e)).heap[n]?=d.heap[n]?:=fun{s n iy} Y y=>dI fun B=>by
  subst B;exact Y (bz y cH)
 have N:∀{s:TypeId} {n ib:Nat} {v:Value} {xs:List Value},s≠3->d.ownsRow 0 s n v ib xs->(d.setCell (K l b) (A e)).ownsRow 0 s n v ib xs:=fun{s n ib v xs} Y Q=>b4 Q fun g y=>by
  obtain⟨iy,ov⟩:=bt Q y;exact other Y ov
 have hsz:(d.setCell (K l b) (A e)).heap.size=d.heap.size:=by simp
 have wO:sZ (d.setCell (K l b) (A e)) r i m (ow k a b e).P (ow k a b e).has h.aN h.aG h.aQ h.aV h.cops h.cp:=by
  refine⟨⟨by rw[other (by decide) q.room.aI];exact q.room.aI,q.room.hN,N (by decide) q.room.hq,fun t M=>⟨N (by decide) (q.room.dZ t M).1,fun o Q=>N (by decide) ((q.room.dZ t M).2 o Q)⟩,N (by decide) q.room.fx,fun u F=> ?_,?_,q.room.hsz⟩,q.apart,q.ops,q.cd,q.p8,q.mr,q.qV,q.qW,q.fold,fun n B=>by rw[hsz];exact q.lt n B⟩
  ·by_cases s:u=a
   ·subst s
    have aI:=q.room.hH u F;rw[W]at aI;have :=IG aI b (A e);rw[W];unfold ow;simp only[bN];rw[Ks (k.has u) (fun e:Nat=>A e) b e m];exact this
   ·unfold ow
    simp only[ck _ _ s];refine b4 (q.room.hH u F) fun g y=>dI fun R=> ?_
    subst R;exact q.apart.has u a F z s (by rw[y,X])
  ·intro u t F C
   unfold ow;simp only;by_cases s:u=a
   ·subst s
    rw[bN];by_cases R:t=b
    ·subst R
     rw[bN,<-aoU (f:=bw.p),q.ops t C];exact hn
    ·rw[ck _ _ R]
     exact q.room.hle u t F C
   ·rw[ck _ _ s]
    exact q.room.hle u t F C
 refine⟨⟨wO,fun a z=>b4 (c.wait a z) fun g y=>D g (c.lw a z g y),fun a z=>b4 (c.lost a z) fun g y=>D g (c.zL a z g y),fun a z=>b4 (c.BL a z) fun g y=>D g (c.zM a z g y),fun a b z U=>b4 (c.qq a b z U) fun g y=>D g (c.p5 a b z U g y),b4 c.cl fun g y=>D g (c.zN g y),fun t C=>b4 (c.hl t C) fun g y=>D g (c.hh t C g y),fun t w C E=>(c.ao t w C E).af fun g y=>D g (c.pR t w C E g y),c.pm,fun t w C E x S=>⟨(c.each t w C E x S).1.gU (c.each t w C E x S).2.1 (c.each t w C E x S).2.2 M,(c.each t w C E x S).2⟩,c.lw,c.zL,c.zM,c.p5,c.zN,c.hh,c.pR,c.zO,c.BM,c.zy,c.DW,c.dp,c.zP,c.wM,fun n B=>by rw[hsz];exact c.lt n B,fun n B=>by rw[hsz];exact c.cJ n B,c.wN,c.o8⟩,⟨L.os,L.tape,L.output,L.size,fun n B aD=>L.other n B fun s=>aD (.inl (s▸hF)),fun n B=>.inl B⟩⟩
theorem ajv{f:Nat->Nat}(h:d.ownsRow m 3 1 (.slice (some (H l)) a r) a (((List.range a).map f).flatMap o7)):(d.setCell (K l e) (A b)).ownsRow m 3 1 (.slice (some (H l)) a r) a (((List.range a).map (upd f e b)).flatMap o7):=by
 have :=IG h e (A b);have c:∀f:Nat->Nat,((List.range a).map f).flatMap o7=(List.range a).map fun i=>A (f i):=fun f=>by
  rw[List.flatMap_map];exact List.map_eq_flatMap.symm
 rw[c]at this⊢;rw[Ks f (fun b:Nat=>A b) e b a];exact this
def IP (S:cq) (c d i n:Nat):cq:={S with known:=upd S.known c (upd (S.known c) d (upd (S.known c d) i n))}
theorem da.ajw{I}(c:da d m f j I l k h)(y:b<l){i n:Nat}(L:e<l)(aH:h.wL b e=.slice (some (H a)) l r):da (d.setCell (K a i) (A n)) m f j I l (IP k b e i n) h/\c0 (sa f j I) (sa f j I) d (d.setCell (K a i) (A n)):=by
 have M:(h.wL b e).ownBlock=some a:=by rw[aH];rfl
 have U:j a:=c.p5 b e y L a M;obtain⟨cur,cH⟩:=bt (c.qq b e y L) M;have E:aP (fun p=>p=a) d (d.setCell (K a i) (A n)):=aP.lf _ rfl;have B:∀p,f p->(d.setCell (K a i) (A n)).heap[p]?=d.heap[p]?:=fun p x=>dI fun q=>c.wM p (q▸U) x
 have C:∀p,I p->(d.setCell (K a i) (A n)).heap[p]?=d.heap[p]?:=fun p x=>dI fun q=>c.o8 p x (q▸U)
 have other:∀{q:TypeId} {p:Nat} {cur:Array Value},q≠3->d.heap[p]?=some (.cells cur q (0,0))->(d.setCell (K a i) (A n)).heap[p]?=d.heap[p]?:=fun{q p iy} W u=>dI fun x=>by
  subst x;exact W (bz u cH)
 have N:∀{q:TypeId} {p X:Nat} {v:Value} {Y:List Value},q≠3->d.ownsRow 0 q p v X Y->(d.setCell (K a i) (A n)).ownsRow 0 q p v X Y:=fun{q p X v Y} W F=>b4 F fun a u=>by
  obtain⟨iy,ov⟩:=bt F u;exact other W ov
 have hsz:(d.setCell (K a i) (A n)).heap.size=d.heap.size:=by simp
 have wO:sZ (d.setCell (K a i) (A n)) m f l k.P k.has h.aN h.aG h.aQ h.aV h.cops h.cp:=by
  have g:=c.cx;refine⟨⟨?_,g.room.hN,b4 g.room.hq (fun a u=>B a (g.p8 a u)),fun i C=>⟨b4 (g.room.dZ i C).1 (fun a u=>B a (g.qV i C a u)),fun o F=>b4 ((g.room.dZ i C).2 o F) (fun a u=>B a (g.fold i C o F a u))⟩,b4 g.room.fx (fun a u=>B a (g.mr a u)),fun b y=>b4 (g.room.hH b y) (fun a u=>B a (g.qW b y a u)),g.room.hle,g.room.hsz⟩,g.apart,g.ops,g.cd,g.p8,g.mr,g.qV,g.qW,g.fold,fun p cM=>by rw[hsz];exact g.lt p cM⟩;rw[B m g.cd];exact g.room.aI
 refine⟨⟨wO,fun b y=>N (by decide) (c.wait b y),fun s w=>b4 (c.lost s w) fun Q u=>dI fun q=> ?_,fun b y=>N (by decide) (c.BL b y),fun s D w gL=> ?_,N (by decide) c.cl,fun i eL=>N (by decide) (c.hl i eL),fun g s z w=>(c.ao g s z w).af fun Q u=> ?_,c.pm,fun g s z w t R=>⟨(c.each g s z w t R).1.gU (c.each g s z w t R).2.1 (c.each g s z w t R).2.2 C,(c.each g s z w t R).2⟩,c.lw,c.zL,c.zM,c.p5,c.zN,c.hh,c.pR,c.zO,c.BM,c.zy,c.DW,c.dp,c.zP,c.wM,fun p x=>by rw[hsz];exact c.lt p x,fun p x=>by rw[hsz];exact c.cJ p x,c.wN,c.o8⟩,⟨E.os,E.tape,E.output,E.size,fun p x aD=>E.other p x fun q=>aD (.inr (.inl (q▸U))),fun p x=>.inl x⟩⟩
 ·subst q
  exact c.DW b e s y L w Q M u
 ·unfold IP
  simp only;by_cases q:s=b/\D=e
  ·obtain⟨rfl,rfl⟩:=q
   rw[bN,bN];have S:=c.qq s D w gL;unfold kJ at S⊢;rw[aoU,ap4]at S⊢;rw[aH]at S⊢;exact ajv S
  ·have e':upd k.known b (upd (k.known b) e (upd (k.known b e) i n)) s D=k.known s D:=by
    by_cases aj:s=b
    ·subst aj
     rw[bN,ck _ _ fun aw=>q ⟨rfl,aw⟩]
    ·rw[ck _ _ aj]
   rw[e'];refine b4 (c.qq s D w gL) fun Q u=>dI fun aw=> ?_
   subst aw;exact c.BM s D b e w gL y L (Decidable.or_iff_not_not_and_not.2 fun cY=>q ⟨arC.1 cY.1,arC.1 cY.2⟩) Q u M
 ·obtain⟨iy,ov⟩:=(c.ao g s z w).lt u
  exact other (by decide) ov
def nZ (N:Nat) (P:Nat->List bu) (l:List (Nat×Nat)):Prop:=l.Nodup/\∀f∈l,f.1<N/\f.2<=(P f.1).length
theorem nZ.len{P l}(h:nZ a P l)(e:a<=4)(b:∀i,i<a->(P i).length<=60):l.length<=244:=by
 have :=L2 (m:=(List.range 4).flatMap fun i=>(List.range 61).map fun j=>(i,j)) h.1 fun f c=>by
  obtain⟨d,g⟩:=h.2 f c;have :=b f.1 d;rw[api];exact⟨f.1,apQ.2 (by omega),aoX.2 ⟨f.2,apQ.2 (by omega),rfl⟩⟩
 exact this
theorem nZ.add{P l}(h:nZ b P l)(j:Nat->Nat){f:Nat×Nat}(k:f.1<b/\f.2<=(P f.1).length):nZ b P (F6 j l f):=by
 unfold F6;split
 ·rename_i e
  refine⟨aps.2 ⟨h.1,by simp,fun a m c i n=> ?_⟩,fun g d=> ?_⟩
  ·rw[ao2]at i
   subst i n;exact e.2 m
  ·rcases aoZ.1 d with d|d
   ·exact h.2 g d
   ·rw[ao2]at d
    subst d;exact k
 ·exact h
theorem nZ.Mq{N:Nat}{P:Nat->List bu}(a:Nat->Nat):∀{l b:List (Nat×Nat)},nZ N P b->(∀f∈l,f.1<N/\f.2<=(P f.1).length)->nZ N P (mB a b l)
 |[],_,h,_=>h
 |f::l,b,h,c=>nZ.Mq a (l:=l) (h.add a (c f (by simp))) fun g d=>c g (by simp[d])
theorem ajx{b:Nat->Nat}{c:List (Nat×Nat)}(d:a<n.length):mB b c (n.take (a+1))=F6 b (mB b c (n.take a)) n[a]:=by
 rw[aph d];unfold mB;rw[apX];rfl
theorem RD(h:(b,a+1)∉n):∀f,runN n b a f=a
 |0=>rfl
 |f+1=>by unfold runN;rw[if_neg h]
theorem ZK(h:(a,b+1)∈n):runN n a b (e+1)=runN n a (b+1) e:=by
 conv=>lhs;unfold runN
 rw[if_pos h]
theorem ZL{a:List (Nat×Nat)}{d b:Nat}(h:∀n,(d,n)∈a->n<=b):∀f n,n<=b->runN a d n f<=b
 |0,n,c=>c
 |f+1,n,c=>by
  by_cases e:(d,n+1)∈a
  ·rw[ZK e]
   exact ZL h f (n+1) (h _ e)
  ·rw[RD e]
   exact c
structure pS (c:Nat) (F L gd I:Nat->Prop) (x x':fm) (w w':World):Prop where
 aG:x'.aG=x.aG
 bc:x'.cp c 0=x.cp c 0
 cO:x'.cO=x.cO
 nT:c0 (sa F L I) (sa F gd I) w w'
 Mr:∀k,I k->k<w.heap.size->w'.heap[k]?=w.heap[k]?
theorem pS.below(b:J d q):pS a i f f j h h d q:=⟨rfl,rfl,rfl,c0.cQ b,fun k _ c=>b.block k c⟩
theorem pS.trans{c F L d e I x f g w h i}(a:pS c F L d I x f w h)(b:pS c F d e I f g h i):pS c F L e I x g w i:=
 ⟨b.aG.trans a.aG,b.bc.trans a.bc,b.cO.trans a.cO,a.nT.trans b.nT,fun k j l=>(b.Mr k j (aoV l a.nT.size)).trans (a.Mr k j l)⟩
theorem da.ZM{p}(g:da d l f j i e k h)(s:a<e)(t:aP (fun c=>(h.cp a 1).ownBlock=some c) d q)(x:jA 0 q p n)(y:∀c,p.ownBlock=some c->(h.cp a 1).ownBlock=some c\/d.heap.size<=c)(u:h.aG=.slice (some (H b)) e m):
  ∃r v,da (q.setCell (K b (a*4+1)) p) l f r i e (mC k a n) v/\pS a f j r i h v d (q.setCell (K b (a*4+1)) p):=by
 obtain⟨r,z,B⟩:=g.waited s t x y u;refine⟨r,_,z,rfl,wQ _ _ (by decide),rfl,B,fun c w C=> ?_⟩;have D:h.aG.ownBlock=some b:=by rw[u];rfl
 have E:c≠b:=fun o=>g.wN c w (o▸g.cx.mr b D)
 rw[dI E];exact t.other c C fun o=>g.o8 c w (g.lw a s c o)
theorem da.ajy(c:da d m i f j e k h)(p:a<e){n:Nat}(s:l<e)(t:n<=(k.P l).length)(q:h.cp a 0=.slice (some (H b)) e r):da (d.setCell (K b l) (A n)) m i f j e (ow k a l n) h/\pS a i f f j h h d (d.setCell (K b l) (A n)):=by
 obtain⟨u,v⟩:=c.aju p s t q;have w:(h.cp a 0).ownBlock=some b:=by rw[q];rfl
 exact⟨u,rfl,rfl,rfl,v,fun g x y=>dI fun(o:g=b)=>c.wN g x (o▸c.cx.qW a p b w)⟩
theorem da.Ms{I S}(g:da d e i j I b S h)(l:a<b):∃m n r w s t u o v p,h.aG=.slice (some (H m)) b n/\b<=n/\d.cell? (K e 2)=some (.slice (some (H m)) b n)/\d.cell? (K m (a*4))=some (.slice (some (H r)) b w)/\d.cell? (K m (a*4+1))=some (.slice s (S.wait a).length t)/\d.cell? (K m (a*4+2))=some (.slice (some (H u)) b o)/\d.cell? (K m (a*4+3))=some (.slice (some (H v)) b p)/\
  h.cp a 0=.slice (some (H r)) b w/\h.cp a 1=.slice s (S.wait a).length t/\h.cp a 2=.slice (some (H u)) b o/\h.cp a 3=.slice (some (H v)) b p/\b<=w/\b<=o/\b<=p/\(∀c,c<b->d.cell? (K r c)=some (A (S.has a c)))/\(∀c,c<b->d.cell? (K u c)=some (A (S.lost a c)))/\(∀c,c<b->d.cell? (K v c)=some (h.wL a c))/\(∃x,d.heap[m]?=some (.cells x 225 (0,0)))/\(∃x,d.heap[r]?=some (.cells x 3 (0,0))):=by
 obtain⟨m,n,C,Q,_,k,D,E,F,L⟩:=g.Mp l;obtain⟨R,U,y,W,X⟩:=g.cx.room.Cp l;obtain⟨s,t,M,_⟩:=bp (g.wait a l);have q:=g.lost a l;unfold kJ at q;rw[aoU,ap4]at q;obtain⟨u,o,N,Y,_,f2⟩:=bp q;obtain⟨g2,rfl⟩:=f2 a l;obtain⟨v,p,z,FH,_,f3⟩:=bp (g.BL a l);obtain⟨g3,rfl⟩:=f3 a l;rw[y]at D;rw[M]at E;rw[N]at F q;rw[z]at L;have P:=g.BL a l;rw[z]at P;refine⟨m,n,R,U,s,t,g2,o,g3,p,C,Q,k,D,E,F,L,y,M,N,z,W,Y,FH,X,fun c B=> ?_,fun c B=> ?_,bt g.cx.room.fx (by rw[C];rfl),bt (g.cx.room.hH a l) (by rw[y];rfl)⟩
 ·have :=iw (f:=o7) (k:=1) (fun _=>rfl) q (by simp) c (by simpa using B) 0 (by omega)
  simpa[o7]using this
 ·have :=P.cellAt c (by omega)
  rw[this];simp[B]
end Go.Proofs.YtnkpogjiiohapaaGreatDoor
