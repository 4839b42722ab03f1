/- Our own text. -/
import Derived.Test.YtnkpogjiiohapaaGreatDoorA33
set_option linter.unusedSimpArgs false
set_option linter.unusedVariables false
namespace Go.Proofs.YtnkpogjiiohapaaGreatDoor
open Go.RowKit Tryz
variable {a b d k l q:Nat}{c n:World}{e h i:Nat->Prop}{f:ep}{j:bP}{m:List (Nat×Nat)}
theorem aar{cp:Nat->Nat->Value}{d:Nat}{v:Value}:∀(l:List Nat) (i:Nat),l.Nodup->l[i]?=some d->(l.flatMap fun c=>[cp c 0,cp c 1,cp c 2,cp c 3]).set (i*4+1) v=l.flatMap fun c=>[upd cp d (upd (cp d) 1 v) c 0,upd cp d (upd (cp d) 1 v) c 1,upd cp d (upd (cp d) 1 v) c 2,upd cp d (upd (cp d) 1 v) c 3]
 |[],_,_,h=>by rfl
 |y::l,0,a,h=>by
  simp only[ard,aqo]at h;subst h;have b:y∉l:=by simp_all
  have e:(l.flatMap fun c=>[cp c 0,cp c 1,cp c 2,cp c 3])=l.flatMap fun c=>[upd cp y (upd (cp y) 1 v) c 0,upd cp y (upd (cp y) 1 v) c 1,upd cp y (upd (cp y) 1 v) c 2,upd cp y (upd (cp y) 1 v) c 3]:=Nd fun j f=>by
   rw[b6];rintro rfl;exact b f
  simp only[aqm,aqD,aqK,arM,List.set_cons_zero,Nat.zero_mul,aqQ,bF];rw[e];rfl
 |y::l,i+1,a,h=>by
  have b:y≠d:=by
   rintro rfl;exact(aqw.1 a).1 (arX h)
  rw[show(i+1)*4+1=(i*4+1)+1+1+1+1 by omega];simp only[aqm,aqD,aqK,arM];rw[aar (cp:=cp) (v:=v) l i (aqw.1 a).2 h,b6 _ _ b]
def mE (S:bP) (c:Nat) (l:List (Nat×Nat)):bP:={S with wait:=upd S.wait c l}
def aas (x:ep) (c:Nat) (v:Value):ep:={x with cp:=upd x.cp c (upd (x.cp c) 1 v)}
def oI (S:bP) (c d n:Nat):bP:={S with has:=upd S.has c (upd (S.has c) d n)}
theorem xw{c:Nat->Nat->Value}{v:Value}(b j:Nat)(d:j≠1):upd c a (upd (c a) 1 v) b j=c b j:=by
 by_cases e:b=a
 ·subst e;rw[bF,b6 _ _ d]
 rw[b6 _ _ e]
theorem cL.Nh{x}(l:cL c d e h i b j x)(q:a<b):∃n o,x.aJ=.slice (some (H n)) b o/\b<=o/\o<=maxLen/\c.cell? (K d 2)=some (.slice (some (H n)) b o)/\c.cell? (K n (a*4))=some (x.cp a 0)/\c.cell? (K n (a*4+1))=some (x.cp a 1)/\c.cell? (K n (a*4+2))=some (x.cp a 2)/\c.cell? (K n (a*4+3))=some (x.cp a 3):=by
 have p:=l.ct.room.fF;obtain⟨m,o,r,t,v,w⟩:=bm p;obtain⟨n,rfl⟩:=w a q;have s:=l.ct.room.bc;rw[r]at p s;have k:∀g u,[x.cp a 0,x.cp a 1,x.cp a 2,x.cp a 3][g]?=some u->g<4->c.cell? (K n (a*4+g))=some u:=fun g u z y=>by
  have :=ir (f:=fun a=>[x.cp a 0,x.cp a 1,x.cp a 2,x.cp a 3]) (k:=4) (fun _=>rfl) p (by simp) a (by simpa using q) g y
  simp_all
 exact⟨n,o,r,t,v,s,k 0 _ rfl (by omega),k 1 _ rfl (by omega),k 2 _ rfl (by omega),k 3 _ rfl (by omega)⟩
theorem cL.akr{l'}(p:cL n d e h i b j f)(hc:a<b){v':Value}(aG:aO (fun k=>f.aJ.ownBlock=some k\/(f.cp a 1).ownBlock=some k) n c)(Jl:c.ownsRow 0 225 4 f.aJ b ((List.range b).flatMap fun r=>[upd f.cp a (upd (f.cp a) 1 v') r 0,upd f.cp a (upd (f.cp a) 1 v') r 1,upd f.cp a (upd (f.cp a) 1 v') r 2,upd f.cp a (upd (f.cp a) 1 v') r 3]))(ED:jE 0 c v' l')(de:∀k,v'.ownBlock=some k->(f.cp a 1).ownBlock=some k\/n.heap.size<=k):
  cL c d e (fun k=>h k\/(n.heap.size<=k/\v'.ownBlock=some k)) i b (mE j a l') (aas f a v'):=by
 have r:=p.ct;have hCt:∀k,f.aJ.ownBlock=some k->∃L,n.heap[k]?=some (.cells L 225 (0,0)):=fun k x=>bq r.room.fF x
 have tD:∀l,l<b->∀k,(f.cp l 1).ownBlock=some k->∃L,n.heap[k]?=some (.cells L 258 (0,0)):=fun l y k x=>bq (p.wait l y) x
 have stay:=fun k x S Q=>aG.other k x fun q=>q.elim S Q
 have other:∀{q:TypeId} {k:Nat} {L:Array Value},q≠225->q≠258->n.heap[k]?=some (.cells L q (0,0))->c.heap[k]?=n.heap[k]?:=fun{q k L} S Q F=>stay k (aN F)
  (fun x=>by obtain⟨hv,X⟩:=hCt k x;exact S (bK F X))
  (fun x=>by obtain⟨hv,X⟩:=tD a hc k x;exact Q (bK F X))
 have M:∀{q:TypeId} {k w:Nat} {v:Value} {xs:List Value},q≠225->q≠258->n.ownsRow 0 q k v w xs->c.ownsRow 0 q k v w xs:=fun{q k w v xs} S Q af=>ca af fun g F=>by
  obtain⟨L,U⟩:=bq af F;exact other S Q U
 have xr:vp c d e b (mE j a l').P (mE j a l').has f.aS f.aJ f.aU f.aW f.cops (upd f.cp a (upd (f.cp a) 1 v')):=by
  refine⟨⟨by rw[other (by decide) (by decide) r.room.aH];exact r.room.aH,r.room.hN,M (by decide) (by decide) r.room.hI,fun s C=>⟨M (by decide) (by decide) (r.room.eu s C).1,fun o af=>M (by decide) (by decide) ((r.room.eu s C).2 o af)⟩,Jl,fun l y=>by rw[xw _ _ (by decide)];exact M (by decide) (by decide) (r.room.hH l y),r.room.hle,r.room.hsz⟩,⟨r.apart.ops,fun l B y I R=>by rw[xw _ _ (by decide),xw _ _ (by decide)];exact r.apart.has l B y I R⟩,r.ops,r.b3,r.rS,r.lW,r.uh,fun l y k x=>r.ta l y k (by rw[xw _ _ (by decide)]at x;exact x),r.fold,fun k x=>ap3 (r.lt k x) aG.size⟩
 have Y:∀l,l≠a->upd f.cp a (upd (f.cp a) 1 v') l 1=f.cp l 1:=fun l y=>by rw[b6 _ _ y]
 have aw:upd f.cp a (upd (f.cp a) 1 v') a 1=v':=by rw[bF,bF]
 refine⟨xr,fun l y=> ?_,fun l y=> ?_,fun l y=> ?_,fun l u y ai=>M (by decide) (by decide) (p.qG l u y ai),M (by decide) (by decide) p.cv,fun s C=>M (by decide) (by decide) (p.hl s C),fun s t C W=>(p.ak s t C W).ae fun g F=> ?_,p.pm,fun s t C W m hm=> ?_,
  fun l y k x=> ?_,fun l y k x=>.inl (p.Al l y k ?_),fun l y k x=>.inl (p.Am l y k ?_),fun l u y ai k x=>.inl (p.qj l u y ai k x),fun k x=>.inl (p.An k x),fun s C k x=>.inl (p.gG s C k x),fun s t C W k x=>.inl (p.oG s t C W k x),?_,p.Cs,?_,?_,p.dr,p.Ap,?_,?_,fun k x=>ap3 (p.cx k x) aG.size,p.xq,?_⟩
 ·by_cases q:l=a
  ·subst q;show jE 0 c (upd f.cp l (upd (f.cp l) 1 v') l 1) (upd j.wait l l' l);rw[aw,bF];exact ED
  show jE 0 c (upd f.cp a (upd (f.cp a) 1 v') l 1) (upd j.wait a l' l);rw[Y l q,b6 _ _ q];refine ca (p.wait l y) fun g F=> ?_
  obtain⟨L,U⟩:=tD l y g F;exact stay g (aN U) (fun x=>by obtain⟨hv,X⟩:=hCt g x;exact absurd (bK U X) (by decide)) (fun x=>p.Ao l a y hc q g F x)
 ·show kH 0 c (upd f.cp a (upd (f.cp a) 1 v') l 2) _;rw[xw _ _ (by decide)];exact M (by decide) (by decide) (p.lost l y)
 ·show c.ownsRow 0 _ 1 (upd f.cp a (upd (f.cp a) 1 v') l 3) b _;rw[xw _ _ (by decide)];exact M (by decide) (by decide) (p.Cr l y)
 ·obtain⟨L,U⟩:=(p.ak s t C W).lt F;exact other (by decide) (by decide) U
 ·obtain⟨S,Q,al⟩:=p.each s t C W m hm;exact⟨S.ft Q al (fun k x=>stay k (p.cx k x) (fun q=>p.xq k x (r.lW k q)) (fun q=>p.ob k x (p.lw a hc k q))),Q,al⟩
 ·have z:(upd f.cp a (upd (f.cp a) 1 v') l 1).ownBlock=some k:=x;by_cases q:l=a
  ·subst q;rw[aw]at z;rcases de k z with E|E
   ·exact .inl (p.lw l y k E)
   exact .inr ⟨E,z⟩
  rw[Y l q]at z;exact .inl (p.lw l y k z)
 ·have z:(upd f.cp a (upd (f.cp a) 1 v') l 2).ownBlock=some k:=x;rw[xw _ _ (by decide)]at z;exact z
 ·have z:(upd f.cp a (upd (f.cp a) 1 v') l 3).ownBlock=some k:=x;rw[xw _ _ (by decide)]at z;exact z
 ·intro l B y I R k x z;have N:(upd f.cp a (upd (f.cp a) 1 v') l 1).ownBlock=some k:=x;have D:(upd f.cp a (upd (f.cp a) 1 v') B 1).ownBlock=some k:=z;by_cases q:l=a
  ·subst q;rw[aw]at N;rw[Y B (fun q=>R q.symm)]at D;rcases de k N with E|E
   ·exact p.Ao l B y I R k E D
   exact absurd (p.lt k (p.lw B I k D)) (by omega)
  rw[Y l q]at N;by_cases E:B=a
  ·subst E;rw[aw]at D;rcases de k D with E|E
   ·exact p.Ao l B y I R k N E
   exact absurd (p.lt k (p.lw l y k N)) (by omega)
  rw[Y B E]at D;exact p.Ao l B y I R k N D
 ·intro l B y I R k x z;have N:(upd f.cp a (upd (f.cp a) 1 v') l 2).ownBlock=some k:=x;have D:(upd f.cp a (upd (f.cp a) 1 v') B 2).ownBlock=some k:=z;rw[xw _ _ (by decide)]at N D;exact p.zV l B y I R k N D
 ·intro l u B y ai I k x z;have D:(upd f.cp a (upd (f.cp a) 1 v') B 2).ownBlock=some k:=z;rw[xw _ _ (by decide)]at D;exact p.EB l u B y ai I k x D
 ·rintro k (x|⟨x,_⟩)
  ·exact p.xp k x
  exact fun q=>absurd (r.lt k q) (by omega)
 ·rintro k (x|⟨_,x⟩)
  ·exact ap3 (p.lt k x) aG.size
  exact(ap1 ED k x).2
 rintro k x (q|⟨q,_⟩)
 ·exact p.ob k x q
 exact absurd (p.cx k x) (by omega)
theorem cL.waited{v' l'}(p:cL n k e i h d j f)(r:a<d)(t:aO (fun o=>(f.cp a 1).ownBlock=some o) n c)(u:jE 0 c v' l')(z:∀o,v'.ownBlock=some o->(f.cp a 1).ownBlock=some o\/n.heap.size<=o)(v:f.aJ=.slice (some (H b)) d l):
  ∃w,cL (c.setCell (K b (a*4+1)) v') k e w h d (mE j a l') (aas f a v')/\c6 (sv e i h) (sv e w h) n (c.setCell (K b (a*4+1)) v'):=by
 have x:f.aJ.ownBlock=some b:=by rw[v];rfl
 obtain⟨B,C⟩:=bq p.ct.room.fF x;have D:(f.cp a 1).ownBlock≠some b:=fun m=>by
  obtain⟨E,F⟩:=bq (p.wait a r) m
  simp_all
 have M:c.heap[b]?=some (.cells B 225 (0,0)):=by rw[t.other b (aN C) D];omega
 have I:c.ownsRow 0 225 4 (.slice (some (H b)) d l) d ((List.range d).flatMap fun a=>[f.cp a 0,f.cp a 1,f.cp a 2,f.cp a 3]):=by
  rw[<-v];exact ca p.ct.room.fF fun g N=>by
   simp_all
 have q:aO (fun o=>f.aJ.ownBlock=some o\/(f.cp a 1).ownBlock=some o) n (c.setCell (K b (a*4+1)) v'):=(t.mono fun o s=>.inr s).trans (aO.kU v' (.inl x));have L:=p.akr r (v':=v') (l':=l') q (by
   have :=Gy I (a*4+1) v';rw[aar (cp:=f.cp) (List.range d) a List.nodup_range (by rw[asG r])]at this
   simp_all) (iV u (fun m=>by
    obtain⟨E,F⟩:=bq u m
    simp_all) v') z
 refine⟨_,L,⟨q.os,q.tape,q.output,q.size,fun o s y=>q.other o s fun m=> ?_,?_⟩⟩
 ·rcases m with m|m
  ·exact y (.inl (p.ct.lW o m))
  exact y (.inr (.inl (p.lw a r o m)))
 rintro o (m|(m|m)|m)
 ·exact .inl (.inl m)
 ·exact .inl (.inr (.inl m))
 ·omega
 exact .inl (.inr (.inr m))
theorem cL.aks{x}(n:cL c q e h i l j x)(B:a<l)(U:b<l)(hn:d<=(j.P b).length){nm:Nat}(W:x.cp a 0=.slice (some (H k)) l nm):cL (c.setCell (K k b) (A d)) q e h i l (oI j a b d) x/\c6 (sv e h i) (sv e h i) c (c.setCell (K k b) (A d)):=by
 have s:=n.ct;have X:(x.cp a 0).ownBlock=some k:=by rw[W];rfl
 have hF:=s.ta a B k X;obtain⟨cur,cr⟩:=bq (s.room.hH a B) X;have L:aO (fun r=>r=k) c (c.setCell (K k b) (A d)):=aO.kU _ rfl;have E:∀r,h r->(c.setCell (K k b) (A d)).heap[r]?=c.heap[r]?:=fun r C=>dy fun t=>n.xp r C (t▸hF)
 have M:∀r,i r->(c.setCell (K k b) (A d)).heap[r]?=c.heap[r]?:=fun r C=>dy fun t=>n.xq r C (t▸hF)
 have other:∀{t:TypeId} {r:Nat} {cur:Array Value},t≠3->c.heap[r]?=some (.cells cur t (0,0))->(c.setCell (K k b) (A d)).heap[r]?=c.heap[r]?:=fun{t r hv} Y z=>dy fun C=>by
  subst C;exact Y (bK z cr)
 have N:∀{t:TypeId} {r ic:Nat} {v:Value} {xs:List Value},t≠3->c.ownsRow 0 t r v ic xs->(c.setCell (K k b) (A d)).ownsRow 0 t r v ic xs:=fun{t r ic v xs} Y Q=>ca Q fun g z=>by
  obtain⟨hv,oH⟩:=bq Q z;exact other Y oH
 have hsz:(c.setCell (K k b) (A d)).heap.size=c.heap.size:=by simp
 have xr:vp (c.setCell (K k b) (A d)) q e l (oI j a b d).P (oI j a b d).has x.aS x.aJ x.aU x.aW x.cops x.cp:=by
  refine⟨⟨by rw[other (by decide) s.room.aH];exact s.room.aH,s.room.hN,N (by decide) s.room.hI,fun u M=>⟨N (by decide) (s.room.eu u M).1,fun o Q=>N (by decide) ((s.room.eu u M).2 o Q)⟩,N (by decide) s.room.fF,fun w I=> ?_,?_,s.room.hsz⟩,s.apart,s.ops,s.b3,s.rS,s.lW,s.uh,s.ta,s.fold,fun r C=>by rw[hsz];exact s.lt r C⟩
  ·by_cases t:w=a
   ·subst t;have aH:=s.room.hH w I;rw[W]at aH;have :=Gy aH b (A d);rw[W];unfold oI;simp only[bF];rw[Le (j.has w) (fun d:Nat=>A d) b d l];exact this
   unfold oI;simp only[b6 _ _ t];refine ca (s.room.hH w I) fun g z=>dy fun R=> ?_
   subst R;exact s.apart.has w a I B t (by rw[z,X])
  intro w u I D;unfold oI;simp only;by_cases t:w=a
  ·subst t;rw[bF];by_cases R:u=b
   ·subst R;rw[bF,<-ap2 (f:=bE.p),s.ops u D];exact hn
   rw[b6 _ _ R];exact s.room.hle w u I D
  rw[b6 _ _ t];exact s.room.hle w u I D
 refine⟨⟨xr,fun a B=>ca (n.wait a B) fun g z=>E g (n.lw a B g z),fun a B=>ca (n.lost a B) fun g z=>E g (n.Al a B g z),fun a B=>ca (n.Cr a B) fun g z=>E g (n.Am a B g z),fun a b B U=>ca (n.qG a b B U) fun g z=>E g (n.qj a b B U g z),ca n.cv fun g z=>E g (n.An g z),fun u D=>ca (n.hl u D) fun g z=>E g (n.gG u D g z),fun u y D F=>(n.ak u y D F).ae fun g z=>E g (n.oG u y D F g z),n.pm,fun u y D F m S=>⟨(n.each u y D F m S).1.ft (n.each u y D F m S).2.1 (n.each u y D F m S).2.2 M,(n.each u y D F m S).2⟩,n.lw,n.Al,n.Am,n.qj,n.An,n.gG,n.oG,n.Ao,n.Cs,n.zV,n.EB,n.dr,n.Ap,n.xp,fun r C=>by rw[hsz];exact n.lt r C,fun r C=>by rw[hsz];exact n.cx r C,n.xq,n.ob⟩,⟨L.os,L.tape,L.output,L.size,fun r C aD=>L.other r C fun t=>aD (.inl (t▸hF)),fun r C=>.inl C⟩⟩
theorem akt{f:Nat->Nat}(h:c.ownsRow l 3 1 (.slice (some (H k)) a q) a (((List.range a).map f).flatMap pw)):(c.setCell (K k d) (A b)).ownsRow l 3 1 (.slice (some (H k)) a q) a (((List.range a).map (upd f d b)).flatMap pw):=by
 have :=Gy h d (A b);have e:∀f:Nat->Nat,((List.range a).map f).flatMap pw=(List.range a).map fun i=>A (f i):=fun f=>by
  rw[List.flatMap_map];exact List.map_eq_flatMap.symm
 rw[e]at this⊢;rw[Le f (fun b:Nat=>A b) d b a];omega
def Jt (S:bP) (c d i n:Nat):bP:={S with known:=upd S.known c (upd (S.known c) d (upd (S.known c d) i n))}
theorem cL.aku{L}(g:cL c l e L h k j f)(y:b<k){i n:Nat}(I:d<k)(aF:f.xo b d=.slice (some (H a)) k q):cL (c.setCell (K a i) (A n)) l e L h k (Jt j b d i n) f/\c6 (sv e L h) (sv e L h) c (c.setCell (K a i) (A n)):=by
 have M:(f.xo b d).ownBlock=some a:=by rw[aF];rfl
 have S:=g.qj b d y I a M;obtain⟨cur,cr⟩:=bq (g.qG b d y I) M;have E:aO (fun r=>r=a) c (c.setCell (K a i) (A n)):=aO.kU _ rfl;have B:∀r,e r->(c.setCell (K a i) (A n)).heap[r]?=c.heap[r]?:=fun r x=>dy fun s=>g.xp r (s▸S) x
 have C:∀r,h r->(c.setCell (K a i) (A n)).heap[r]?=c.heap[r]?:=fun r x=>dy fun s=>g.ob r x (s▸S)
 have other:∀{s:TypeId} {r:Nat} {cur:Array Value},s≠3->c.heap[r]?=some (.cells cur s (0,0))->(c.setCell (K a i) (A n)).heap[r]?=c.heap[r]?:=fun{s r hv} U u=>dy fun x=>by
  subst x;exact U (bK u cr)
 have N:∀{s:TypeId} {r W:Nat} {v:Value} {X:List Value},s≠3->c.ownsRow 0 s r v W X->(c.setCell (K a i) (A n)).ownsRow 0 s r v W X:=fun{s r W v X} U F=>ca F fun a u=>by
  obtain⟨hv,Y⟩:=bq F u;exact other U Y
 have hsz:(c.setCell (K a i) (A n)).heap.size=c.heap.size:=by simp
 have xr:vp (c.setCell (K a i) (A n)) l e k j.P j.has f.aS f.aJ f.aU f.aW f.cops f.cp:=by
  have p:=g.ct;refine⟨⟨?_,p.room.hN,ca p.room.hI (fun a u=>B a (p.rS a u)),fun i C=>⟨ca (p.room.eu i C).1 (fun a u=>B a (p.uh i C a u)),fun o F=>ca ((p.room.eu i C).2 o F) (fun a u=>B a (p.fold i C o F a u))⟩,ca p.room.fF (fun a u=>B a (p.lW a u)),fun b y=>ca (p.room.hH b y) (fun a u=>B a (p.ta b y a u)),p.room.hle,p.room.hsz⟩,p.apart,p.ops,p.b3,p.rS,p.lW,p.uh,p.ta,p.fold,fun r cN=>by rw[hsz];exact p.lt r cN⟩;rw[B l p.b3];exact p.room.aH
 refine⟨⟨xr,fun b y=>N (by decide) (g.wait b y),fun t w=>ca (g.lost t w) fun Q u=>dy fun s=> ?_,fun b y=>N (by decide) (g.Cr b y),fun t D w cK=> ?_,N (by decide) g.cv,fun i eS=>N (by decide) (g.hl i eS),fun p t z w=>(g.ak p t z w).ae fun Q u=> ?_,g.pm,fun p t z w m R=>⟨(g.each p t z w m R).1.ft (g.each p t z w m R).2.1 (g.each p t z w m R).2.2 C,(g.each p t z w m R).2⟩,g.lw,g.Al,g.Am,g.qj,g.An,g.gG,g.oG,g.Ao,g.Cs,g.zV,g.EB,g.dr,g.Ap,g.xp,fun r x=>by rw[hsz];exact g.lt r x,fun r x=>by rw[hsz];exact g.cx r x,g.xq,g.ob⟩,⟨E.os,E.tape,E.output,E.size,fun r x aD=>E.other r x fun s=>aD (.inr (.inl (s▸S))),fun r x=>.inl x⟩⟩
 ·subst s;exact g.EB b d t y I w Q M u
 ·unfold Jt;simp only;by_cases s:t=b/\D=d
  ·obtain⟨rfl,rfl⟩:=s;rw[bF,bF];have aH:=g.qG t D w cK;unfold kH at aH⊢;rw[ap2,aq6,aF]at aH⊢;exact akt aH
  have e':upd j.known b (upd (j.known b) d (upd (j.known b d) i n)) t D=j.known t D:=by
   by_cases aj:t=b
   ·subst aj;rw[bF,b6 _ _ fun aw=>s ⟨rfl,aw⟩]
   rw[b6 _ _ aj]
  rw[e'];refine ca (g.qG t D w cK) fun Q u=>dy fun aw=> ?_
  subst aw;exact g.Cs t D b d w cK y I (Decidable.or_iff_not_not_and_not.2 fun cS=>s ⟨asH.1 cS.1,asH.1 cS.2⟩) Q u M
 obtain⟨hv,Y⟩:=(g.ak p t z w).lt u;exact other (by decide) Y
def oc (N:Nat) (P:Nat->List bH) (l:List (Nat×Nat)):Prop:=l.Nodup/\∀f∈l,f.1<N/\f.2<=(P f.1).length
theorem oc.len{N P l}(h:oc N P l)(d:N<=4)(a:∀i,i<N->(P i).length<=60):l.length<=244:=by
 have :=ML (m:=(List.range 4).flatMap fun i=>(List.range 61).map fun j=>(i,j)) h.1 fun f b=>by
  obtain⟨c,e⟩:=h.2 f b;have :=a f.1 c;rw[aqq];exact⟨f.1,aqX.2 (by omega),ap5.2 ⟨f.2,aqX.2 (by omega),rfl⟩⟩
 exact this
theorem oc.add{P l}(h:oc b P l)(i:Nat->Nat){f:Nat×Nat}(j:f.1<b/\f.2<=(P f.1).length):oc b P (Gv i l f):=by
 unfold Gv;split
 ·rename_i e
  refine⟨aqF.2 ⟨h.1,by simp,fun a k c m n=> ?_⟩,fun g d=> ?_⟩
  ·simp_all
  rcases ap7.1 d with d|d
  ·exact h.2 g d
  simp_all
 omega
theorem oc.Ni{N:Nat}{P:Nat->List bH}(a:Nat->Nat):∀{l b:List (Nat×Nat)},oc N P b->(∀f∈l,f.1<N/\f.2<=(P f.1).length)->oc N P (mC a b l)
 |[],_,h,_=>h
 |f::l,b,h,c=>oc.Ni a (l:=l) (h.add a (c f (by simp))) fun g d=>c g (by simp[d])
theorem akv{b:Nat->Nat}{c:List (Nat×Nat)}(d:a<m.length):mC b c (m.take (a+1))=Gv b (mC b c (m.take a)) m[a]:=by
 rw[aqp d];unfold mC;rw[ara];rfl
theorem Sz(h:(b,a+1)∉m):∀f,runN m b a f=a
 |0=>rfl
 |f+1=>by unfold runN;simp_all
theorem aat(h:(a,b+1)∈m):runN m a b (d+1)=runN m a (b+1) d:=by
 conv=>lhs;unfold runN
 simp_all
theorem aau{a:List (Nat×Nat)}{d b:Nat}(h:∀n,(d,n)∈a->n<=b):∀f n,n<=b->runN a d n f<=b
 |0,n,c=>c
 |f+1,n,c=>by
  by_cases e:(d,n+1)∈a
  ·rw[aat e];exact aau h f (n+1) (h _ e)
  rw[Sz e];exact c
structure p6 (c:Nat) (F L e5 I:Nat->Prop) (x x':ep) (w w':World):Prop where
 aJ:x'.aJ=x.aJ
 bf:x'.cp c 0=x.cp c 0
 vl:x'.vl=x.vl
 n2:c6 (sv F L I) (sv F e5 I) w w'
 Nj:∀k,I k->k<w.heap.size->w'.heap[k]?=w.heap[k]?
theorem p6.below(b:J c n):p6 a h e e i f f c n:=⟨rfl,rfl,rfl,c6.cJ b,fun k _ d=>b.block k d⟩
theorem p6.trans{c F L d e I x f g w h i}(a:p6 c F L d I x f w h)(b:p6 c F d e I f g h i):p6 c F L e I x g w i:=
 ⟨b.aJ.trans a.aJ,b.bf.trans a.bf,b.vl.trans a.vl,a.n2.trans b.n2,fun k j l=>(b.Nj k j (ap3 l a.n2.size)).trans (a.Nj k j l)⟩
theorem cL.aav{q}(o:cL c k e i h d j f)(s:a<d)(t:aO (fun g=>(f.cp a 1).ownBlock=some g) c n)(x:jE 0 n q m)(y:∀g,q.ownBlock=some g->(f.cp a 1).ownBlock=some g\/c.heap.size<=g)(u:f.aJ=.slice (some (H b)) d l):
  ∃r v,cL (n.setCell (K b (a*4+1)) q) k e r h d (mE j a m) v/\p6 a e i r h f v c (n.setCell (K b (a*4+1)) q):=by
 obtain⟨r,z,B⟩:=o.waited s t x y u;refine⟨r,_,z,rfl,xw _ _ (by decide),rfl,B,fun g w C=> ?_⟩;have D:f.aJ.ownBlock=some b:=by rw[u];rfl
 have E:g≠b:=fun p=>o.xq g w (p▸o.ct.lW b D)
 rw[dy E];exact t.other g C fun p=>o.ob g w (o.lw a s g p)
theorem cL.akw(g:cL c l h e i d j f)(p:a<d){n:Nat}(s:k<d)(t:n<=(j.P k).length)(r:f.cp a 0=.slice (some (H b)) d q):cL (c.setCell (K b k) (A n)) l h e i d (oI j a k n) f/\p6 a h e e i f f c (c.setCell (K b k) (A n)):=by
 obtain⟨u,v⟩:=g.aks p s t r;have w:(f.cp a 0).ownBlock=some b:=by rw[r];rfl
 exact⟨u,rfl,rfl,rfl,v,fun m x y=>dy fun(o:m=b)=>g.xq m x (o▸g.ct.ta a p b w)⟩
theorem cL.Nk{x}(l:cL c d e h i b j x)(m:a<b):∃n o s y t u v p w q,x.aJ=.slice (some (H n)) b o/\b<=o/\c.cell? (K d 2)=some (.slice (some (H n)) b o)/\c.cell? (K n (a*4))=some (.slice (some (H s)) b y)/\c.cell? (K n (a*4+1))=some (.slice t (j.wait a).length u)/\c.cell? (K n (a*4+2))=some (.slice (some (H v)) b p)/\c.cell? (K n (a*4+3))=some (.slice (some (H w)) b q)/\
  x.cp a 0=.slice (some (H s)) b y/\x.cp a 1=.slice t (j.wait a).length u/\x.cp a 2=.slice (some (H v)) b p/\x.cp a 3=.slice (some (H w)) b q/\b<=y/\b<=p/\b<=q/\(∀g,g<b->c.cell? (K s g)=some (A (j.has a g)))/\(∀g,g<b->c.cell? (K v g)=some (A (j.lost a g)))/\(∀g,g<b->c.cell? (K w g)=some (x.xo a g))/\(∃z,c.heap[n]?=some (.cells z 225 (0,0)))/\(∃z,c.heap[s]?=some (.cells z 3 (0,0))):=by
 obtain⟨n,o,E,R,_,k,F,I,L,M⟩:=l.Nh m;obtain⟨S,U,B,W,X⟩:=l.ct.room.C3 m;obtain⟨t,u,N,_⟩:=bm (l.wait a m);have r:=l.lost a m;unfold kH at r;rw[ap2,aq6]at r;obtain⟨v,p,P,Y,_,f2⟩:=bm r;obtain⟨g2,rfl⟩:=f2 a m;obtain⟨w,q,C,Gi,_,f3⟩:=bm (l.Cr a m);obtain⟨g3,rfl⟩:=f3 a m;rw[B]at F;rw[N]at I;rw[P]at L r;rw[C]at M;have Q:=l.Cr a m;rw[C]at Q;refine⟨n,o,S,U,t,u,g2,p,g3,q,E,R,k,F,I,L,M,B,N,P,C,W,Y,Gi,X,fun g D=> ?_,fun g D=> ?_,bq l.ct.room.fF (by rw[E];rfl),bq (l.ct.room.hH a m) (by rw[B];rfl)⟩
 ·have :=ir (f:=pw) (k:=1) (fun _=>rfl) r (by simp) g (by simpa using D) 0 (by omega);simpa[pw]using this
 have :=Q.cellAt g (by omega);rw[this];simp[D]
end Go.Proofs.YtnkpogjiiohapaaGreatDoor
