/- Our own text. -/
import Derived.Test.YtnkpogjiiohapaaGreatDoorA39
set_option linter.unusedSimpArgs false
set_option linter.unusedVariables false
set_option maxRecDepth 1000000
set_option maxHeartbeats 8000000
namespace Go.Proofs.YtnkpogjiiohapaaGreatDoor
section
open Go.RowKit Tryz
variable {a m r:Nat}{b e f h s:Value}{d u:World}{i l n q:List Nat}{j:Nat->Nat->Prop}{k:Nat->Prop}
def jc (base gy b:Nat) (w a:World):Prop:=∃c d e f g h i j k R,jF base gy c d e f g h i j k R b a/\Below base w a
theorem jF.alA{base bX W bI}(p:jF base m f bX h W l i n q j k bI d)(hN:Ac 36 65 138 2 #[A (-7070),A i.length] d m e bX i r (fun x=> #[f,x,h,W]) u)(tc:∀o,e.ownBlock=some o->∀w,w<l.length->¬j w o)(X:∀o,e.ownBlock=some o->¬k o/\base<=o):jc base m (bI+1) d u:=by
 obtain⟨lR,cf,U,fT,Y,F,c6,R,mv,JA⟩:=hN;have hsz:=F.size;have N:∀{B:TypeId} {o r:Nat} {C:Value} {xs:List Value},d.ownsRow 0 B o C r xs->∀{v:Nat},C.ownBlock=some v->d.heap[v]?=some (.cells ((match d.heap[v]? with |some (.cells c _ _)=>c|_=> #[])) B (0,0)):=fun ae v D=>by
  obtain⟨P,cH⟩:=bt ae D;rw[cH]
 have Q:∀(v:Nat) (P:Array Value) (t:TypeId),k v->d.heap[v]?=some (.cells P t (0,0))->t≠84->t≠138->u.heap[v]?=d.heap[v]?:=fun v P t D rk S h2=>F.other v (aM rk) fun I=>by
  rcases I with rfl|I|I
  ·exact S (bz rk p.y)
  ·exact(X v I).1 D
  ·obtain⟨bd,fZ⟩:=bt p.a I
   exact h2 (bz rk fZ)
 have Ei:∀w o,w<l.length->j w o->u.heap[o]?=d.heap[o]?:=fun w o L hF=>F.other o ((p.fs w L).lt o hF) fun I=>by
  rcases I with rfl|I|I
  ·exact p.cd w _ L hF p.l8
  ·exact tc o I w L hF
  ·exact p.cd w o L hF (p.cx o I)
 have JB:∀o,lR.ownBlock=some o->k o\/(e.ownBlock=some o/\o<u.heap.size)\/(d.heap.size<=o/\o<u.heap.size):=fun o M=>by
  rcases c6 with hn|hn
  ·rw[hn]at M;exact .inl (p.cx o M)
  ·exact .inr (.inr ⟨hn o M,(aoT Y o M).2⟩)
 have JC:∀z,z<4->∀g,(U z).ownBlock=some g->k g\/(e.ownBlock=some g/\g<u.heap.size)\/(d.heap.size<=g/\g<u.heap.size):=fun z ar g ah=>by
  rcases JA z ar g ah with S|S
  ·exact .inr (.inl ⟨S,(R.s z ar).lt g ah⟩)
  ·exact .inr (.inr ⟨by omega,(R.s z ar).lt g ah⟩)
 have hlen:i.length+1=(i++[cf]).length:=by simp
 rw[hlen]at Y;refine⟨f,lR,h,W,l,i++[cf],n,q,j,fun o=>k o\/(e.ownBlock=some o/\o<u.heap.size)\/(d.heap.size<=o/\o<u.heap.size),⟨fT,b4 p.bE fun v D=>Q v _ _ (p.se v D) (N p.bE D) (by decide) (by decide),Y,b4 p.b fun v D=>Q v _ _ (p.sf v D) (N p.b D) (by decide) (by decide),b4 p.c fun v D=>Q v _ _ (p.rc v D) (N p.c D) (by decide) (by decide),fun w L=>((p.fs w L).gB hsz fun o hF=>Ei w o L hF).more (apn _),p.jy,p.pM,fun w o L hF E=> ?_,fun o E=> ?_,.inl p.l8,fun v D=>.inl (p.se v D),JB,fun v D=>.inl (p.sf v D),fun v D=>.inl (p.rc v D),((p.wD.af fun v P t D N F=>Q v P t D N (by rcases F with rfl|rfl<;>decide) (by rcases F with rfl|rfl<;>decide)).mono (fun v D=>Or.inl D)).add R (.inr (.inr ⟨by omega,aM R.row⟩)) JC,(p.B4.af fun v P t D N F=>Q v P t D N (by rcases F with rfl|rfl<;>decide) (by rcases F with rfl|rfl<;>decide)).mono (fun v D=>Or.inl D),(p.gN.af fun v P t D N F=>Q v P t D N (by rcases F with rfl|rfl<;>decide) (by rcases F with rfl|rfl<;>decide)).mono (fun v D=>Or.inl D),aoS p.vB (apn _),by simp;have :=p.ox;omega,aoS p.qt (apn _),aoS p.oy (apn _),aoS p.bs hsz⟩,?_⟩
 ·rcases E with E|E|E
  ·exact p.cd w o L hF E
  ·exact tc o E.1 w L hF
  ·have :=(p.fs w L).lt o hF;omega
 ·rcases E with E|E|E
  ·exact⟨(p.aY o E).1,aoV (p.aY o E).2 hsz⟩
  ·exact⟨(X o E.1).2,E.2⟩
  ·have :=p.bs;exact⟨by omega,E.2⟩
 ·refine F.under (fun o M=> ?_) p.bs
  rcases M with rfl|M|M
  ·exact(p.aY _ p.l8).1
  ·exact(X o M).2
  ·exact(p.aY o (p.cx o M)).1
theorem jF.alB{base cV W bI}(p:jF base m f h cV W l n i q j k bI d)(hN:Ac 57 53 140 3 #[A (-7070-(i.length:Int)),A 0,A 0] d m e cV i r (fun x=> #[f,h,x,W]) u)(tc:∀o,e.ownBlock=some o->∀w,w<l.length->¬j w o)(X:∀o,e.ownBlock=some o->¬k o/\base<=o):jc base m (bI+1) d u:=by
 obtain⟨lR,cf,U,fT,Y,F,c6,R,mv,JA⟩:=hN;have hsz:=F.size;have N:∀{B:TypeId} {o r:Nat} {C:Value} {xs:List Value},d.ownsRow 0 B o C r xs->∀{v:Nat},C.ownBlock=some v->d.heap[v]?=some (.cells ((match d.heap[v]? with |some (.cells c _ _)=>c|_=> #[])) B (0,0)):=fun ae v D=>by
  obtain⟨P,cH⟩:=bt ae D;rw[cH]
 have Q:∀(v:Nat) (P:Array Value) (t:TypeId),k v->d.heap[v]?=some (.cells P t (0,0))->t≠84->t≠140->u.heap[v]?=d.heap[v]?:=fun v P t D rk S h2=>F.other v (aM rk) fun I=>by
  rcases I with rfl|I|I
  ·exact S (bz rk p.y)
  ·exact(X v I).1 D
  ·obtain⟨bd,fZ⟩:=bt p.b I
   exact h2 (bz rk fZ)
 have Ei:∀w o,w<l.length->j w o->u.heap[o]?=d.heap[o]?:=fun w o L hF=>F.other o ((p.fs w L).lt o hF) fun I=>by
  rcases I with rfl|I|I
  ·exact p.cd w _ L hF p.l8
  ·exact tc o I w L hF
  ·exact p.cd w o L hF (p.sf o I)
 have JB:∀o,lR.ownBlock=some o->k o\/(e.ownBlock=some o/\o<u.heap.size)\/(d.heap.size<=o/\o<u.heap.size):=fun o M=>by
  rcases c6 with hn|hn
  ·rw[hn]at M;exact .inl (p.sf o M)
  ·exact .inr (.inr ⟨hn o M,(aoT Y o M).2⟩)
 have JC:∀z,z<4->∀g,(U z).ownBlock=some g->k g\/(e.ownBlock=some g/\g<u.heap.size)\/(d.heap.size<=g/\g<u.heap.size):=fun z ar g ah=>by
  rcases JA z ar g ah with S|S
  ·exact .inr (.inl ⟨S,(R.s z ar).lt g ah⟩)
  ·exact .inr (.inr ⟨by omega,(R.s z ar).lt g ah⟩)
 have hlen:i.length+1=(i++[cf]).length:=by simp
 rw[hlen]at Y;refine⟨f,h,lR,W,l,n,i++[cf],q,j,fun o=>k o\/(e.ownBlock=some o/\o<u.heap.size)\/(d.heap.size<=o/\o<u.heap.size),⟨fT,b4 p.bE fun v D=>Q v _ _ (p.se v D) (N p.bE D) (by decide) (by decide),b4 p.a fun v D=>Q v _ _ (p.cx v D) (N p.a D) (by decide) (by decide),Y,b4 p.c fun v D=>Q v _ _ (p.rc v D) (N p.c D) (by decide) (by decide),fun w L=>((p.fs w L).gB hsz fun o hF=>Ei w o L hF).more (apn _),p.jy,p.pM,fun w o L hF E=> ?_,fun o E=> ?_,.inl p.l8,fun v D=>.inl (p.se v D),fun v D=>.inl (p.cx v D),JB,fun v D=>.inl (p.rc v D),(p.wD.af fun v P t D N F=>Q v P t D N (by rcases F with rfl|rfl<;>decide) (by rcases F with rfl|rfl<;>decide)).mono (fun v D=>Or.inl D),((p.B4.af fun v P t D N F=>Q v P t D N (by rcases F with rfl|rfl<;>decide) (by rcases F with rfl|rfl<;>decide)).mono (fun v D=>Or.inl D)).add R (.inr (.inr ⟨by omega,aM R.row⟩)) JC,(p.gN.af fun v P t D N F=>Q v P t D N (by rcases F with rfl|rfl<;>decide) (by rcases F with rfl|rfl<;>decide)).mono (fun v D=>Or.inl D),aoS p.vB (apn _),aoS p.ox (apn _),by simp;have :=p.qt;omega,aoS p.oy (apn _),aoS p.bs hsz⟩,?_⟩
 ·rcases E with E|E|E
  ·exact p.cd w o L hF E
  ·exact tc o E.1 w L hF
  ·have :=(p.fs w L).lt o hF;omega
 ·rcases E with E|E|E
  ·exact⟨(p.aY o E).1,aoV (p.aY o E).2 hsz⟩
  ·exact⟨(X o E.1).2,E.2⟩
  ·have :=p.bs;exact⟨by omega,E.2⟩
 ·refine F.under (fun o M=> ?_) p.bs
  rcases M with rfl|M|M
  ·exact(p.aY _ p.l8).1
  ·exact(X o M).2
  ·exact(p.aY o (p.sf o M)).1
theorem jF.alC{base W bQ bI}(p:jF base m f h W bQ l n q i j k bI d)(hN:Ac 3 24 141 1 #[A (-7070-(i.length:Int))] d m e bQ i r (fun x=> #[f,h,W,x]) u)(tc:∀o,e.ownBlock=some o->∀w,w<l.length->¬j w o)(X:∀o,e.ownBlock=some o->¬k o/\base<=o):jc base m (bI+1) d u:=by
 obtain⟨lR,cf,U,fT,Y,F,c6,R,mv,JA⟩:=hN;have hsz:=F.size;have N:∀{B:TypeId} {o r:Nat} {C:Value} {xs:List Value},d.ownsRow 0 B o C r xs->∀{v:Nat},C.ownBlock=some v->d.heap[v]?=some (.cells ((match d.heap[v]? with |some (.cells c _ _)=>c|_=> #[])) B (0,0)):=fun ae v D=>by
  obtain⟨P,cH⟩:=bt ae D;rw[cH]
 have Q:∀(v:Nat) (P:Array Value) (t:TypeId),k v->d.heap[v]?=some (.cells P t (0,0))->t≠84->t≠141->u.heap[v]?=d.heap[v]?:=fun v P t D rk S h2=>F.other v (aM rk) fun I=>by
  rcases I with rfl|I|I
  ·exact S (bz rk p.y)
  ·exact(X v I).1 D
  ·obtain⟨bd,fZ⟩:=bt p.c I
   exact h2 (bz rk fZ)
 have Ei:∀w o,w<l.length->j w o->u.heap[o]?=d.heap[o]?:=fun w o L hF=>F.other o ((p.fs w L).lt o hF) fun I=>by
  rcases I with rfl|I|I
  ·exact p.cd w _ L hF p.l8
  ·exact tc o I w L hF
  ·exact p.cd w o L hF (p.rc o I)
 have JB:∀o,lR.ownBlock=some o->k o\/(e.ownBlock=some o/\o<u.heap.size)\/(d.heap.size<=o/\o<u.heap.size):=fun o M=>by
  rcases c6 with hn|hn
  ·rw[hn]at M;exact .inl (p.rc o M)
  ·exact .inr (.inr ⟨hn o M,(aoT Y o M).2⟩)
 have JC:∀z,z<4->∀g,(U z).ownBlock=some g->k g\/(e.ownBlock=some g/\g<u.heap.size)\/(d.heap.size<=g/\g<u.heap.size):=fun z ar g ah=>by
  rcases JA z ar g ah with S|S
  ·exact .inr (.inl ⟨S,(R.s z ar).lt g ah⟩)
  ·exact .inr (.inr ⟨by omega,(R.s z ar).lt g ah⟩)
 have hlen:i.length+1=(i++[cf]).length:=by simp
 rw[hlen]at Y;refine⟨f,h,W,lR,l,n,q,i++[cf],j,fun o=>k o\/(e.ownBlock=some o/\o<u.heap.size)\/(d.heap.size<=o/\o<u.heap.size),⟨fT,b4 p.bE fun v D=>Q v _ _ (p.se v D) (N p.bE D) (by decide) (by decide),b4 p.a fun v D=>Q v _ _ (p.cx v D) (N p.a D) (by decide) (by decide),b4 p.b fun v D=>Q v _ _ (p.sf v D) (N p.b D) (by decide) (by decide),Y,fun w L=>((p.fs w L).gB hsz fun o hF=>Ei w o L hF).more (apn _),p.jy,p.pM,fun w o L hF E=> ?_,fun o E=> ?_,.inl p.l8,fun v D=>.inl (p.se v D),fun v D=>.inl (p.cx v D),fun v D=>.inl (p.sf v D),JB,(p.wD.af fun v P t D N F=>Q v P t D N (by rcases F with rfl|rfl<;>decide) (by rcases F with rfl|rfl<;>decide)).mono (fun v D=>Or.inl D),(p.B4.af fun v P t D N F=>Q v P t D N (by rcases F with rfl|rfl<;>decide) (by rcases F with rfl|rfl<;>decide)).mono (fun v D=>Or.inl D),((p.gN.af fun v P t D N F=>Q v P t D N (by rcases F with rfl|rfl<;>decide) (by rcases F with rfl|rfl<;>decide)).mono (fun v D=>Or.inl D)).add R (.inr (.inr ⟨by omega,aM R.row⟩)) JC,aoS p.vB (apn _),aoS p.ox (apn _),aoS p.qt (apn _),by simp;have :=p.oy;omega,aoS p.bs hsz⟩,?_⟩
 ·rcases E with E|E|E
  ·exact p.cd w o L hF E
  ·exact tc o E.1 w L hF
  ·have :=(p.fs w L).lt o hF;omega
 ·rcases E with E|E|E
  ·exact⟨(p.aY o E).1,aoV (p.aY o E).2 hsz⟩
  ·exact⟨(X o E.1).2,E.2⟩
  ·have :=p.bs;exact⟨by omega,E.2⟩
 ·refine F.under (fun o M=> ?_) p.bs
  rcases M with rfl|M|M
  ·exact(p.aY _ p.l8).1
  ·exact(X o M).2
  ·exact(p.aY o (p.rc o M)).1
def sn:gW:=⟨fun _=>[],s0,Sf⟩
theorem alD(N:Nat):Gj N sn:=
 ⟨⟨fun _ _=>rfl,fun _ _ _ _=>rfl,fun _ _=>rfl,fun _ _ i n _ _=>⟨fun h=>(by cases h),fun h=>(by cases h)⟩,fun _ _ _ _ _=>trivial,fun _ _ _ _ _=>rfl,fun _ _ _ _ _ _ _=>rfl,fun _ _ _ _ _ _=>aoR _⟩,kh.new N,fun _ _ o a=>(by cases a)⟩
theorem alE{t:TypeId}(c:d.heap[a]?=some (.cells #[s,b,e,f] t (0,0))):(d.setCell (H a) h).heap[a]?=some (.cells #[h,b,e,f] t (0,0)):=by
 simp[World.setCell,aqw,c]
theorem jF.opened{base bQ bI z N sp}(p:jF base m f h s bQ i l n q j k bI u){S L:World}(aq:J u S)(ag:uu S r (fun g=>u.heap.size<=g/\g<S.heap.size) N sp sn)(Y:J S d)(aI:tv d z (fun g=>S.heap.size<=g/\g<d.heap.size) N sn)(ae:L.ownsRow 0 132 1 e (i.length+1) ((i++[d.heap.size]).flatMap iD))(ah:((d.alloc (.cells #[Z r,Z z,.slice none 0 0] 135)).alloc (.cells #[Z d.heap.size] 132)).grownBy L f.ownBlock)(hn:iT ((d.alloc (.cells #[Z r,Z z,.slice none 0 0] 135)).alloc (.cells #[Z d.heap.size] 132)) f e):jc base m (bI+1) u (L.setCell (H m) e):=by
 have hz1:=aq.size;have hz2:=Y.size;have zi:=ah.size;simp at zi;have hgy:=(p.aY m p.l8).2;have k2:∀g,f.ownBlock=some g->g<u.heap.size:=fun g E=>(p.aY g (p.se g E)).2
 have hz5:(L.setCell (H m) e).heap.size=L.heap.size:=by simp[World.setCell]
 have oj:∀g,g<=d.heap.size->g≠m->f.ownBlock≠some g->(L.setCell (H m) e).heap[g]?=(d.alloc (.cells #[Z r,Z z,.slice none 0 0] 135)).heap[g]?:=fun g E I Q=>
  (dI I).trans ((ah.block g (by simp;omega) (ao5 Q)).trans (ec (by simp;omega)))
 have hq:∀g,g<u.heap.size->g≠m->f.ownBlock≠some g->(L.setCell (H m) e).heap[g]?=u.heap[g]?:=fun g E I Q=>
  (oj g (by omega) I Q).trans ((ec (by omega)).trans ((Y.block g (by omega)).trans (aq.block g E)))
 have h1k:∀g,u.heap.size<=g->g<S.heap.size->(L.setCell (H m) e).heap[g]?=S.heap[g]?:=fun g E cF=>
  (oj g (by omega) (by omega) (fun w=>by have :=k2 g w;omega)).trans ((ec (by omega)).trans (Y.block g cF))
 have h2k:∀g,S.heap.size<=g->g<d.heap.size->(L.setCell (H m) e).heap[g]?=d.heap[g]?:=fun g E cF=>
  (oj g (by omega) (by omega) (fun w=>by have :=k2 g w;omega)).trans (ec (by omega))
 have sY:(L.setCell (H m) e).heap[d.heap.size]?=some (.cells #[Z r,Z z,.slice none 0 0] 135 (0,0)):=
  (oj _ (aoP _) (by omega) (fun w=>by have :=k2 _ w;omega)).trans (bL d _)
 have Q4:L.heap[m]?=some (.cells #[f,h,s,bQ] 84 (0,0)):=by
  refine(ah.block m (by simp;omega) fun w=> ?_).trans ((ec (by simp;omega)).trans ((ec (by omega)).trans ((Y.block m (by omega)).trans ((aq.block m hgy).trans p.y))));obtain⟨R,P⟩:=bt p.bE w.symm;exact absurd (bz P p.y) (by decide)
 have br:e.ownBlock≠some m:=fun w=>by
  obtain⟨R,P⟩:=bt ae w;exact absurd (bz P Q4) (by decide)
 have x7:=iW ae br (o:=0) e;have X:∀(v:Nat) (R:Array Value) (t:TypeId),k v->u.heap[v]?=some (.cells R t (0,0))->t≠84->t≠132->(L.setCell (H m) e).heap[v]?=u.heap[v]?:=fun v R t F rk I Q=>hq v (aM rk) (fun w=>by subst w;exact I (bz rk p.y)) fun w=>by
  obtain⟨bd,fZ⟩:=bt p.bE w;exact Q (bz rk fZ)
 have Ei:∀x g,x<i.length->j x g->(L.setCell (H m) e).heap[g]?=u.heap[g]?:=fun x g W hF=>hq g ((p.fs x W).lt g hF) (fun w=>p.cd x g W hF (w▸p.l8)) fun w=>p.cd x g W hF (p.se g w)
 have P:∀{w:TypeId} {g D:Nat} {B:Value} {xs:List Value},u.ownsRow 0 w g B D xs->∀{v:Nat},B.ownBlock=some v->u.heap[v]?=some (.cells ((match u.heap[v]? with |some (.cells c _ _)=>c|_=> #[])) w (0,0)):=fun ae v F=>by
  obtain⟨R,cH⟩:=bt ae F;rw[cH]
 have mQ:gX (L.setCell (H m) e) d.heap.size (fun g=>u.heap.size<=g/\g<=d.heap.size) r z (.slice none 0 0) [] (fun g=>u.heap.size<=g/\g<S.heap.size) (fun g=>S.heap.size<=g/\g<d.heap.size) N sp sn:=by
  exact⟨sY,ao9 _ _ _ _,ag.gB (by omega) fun g E=>h1k g E.1 E.2,aI.af (by omega) fun g E=>h2k g E.1 E.2,alD N,fun g E=>⟨E.1,by omega⟩,fun g E=>⟨by omega,by omega⟩,⟨by omega,aoP _⟩,fun g E=>by simp[Value.ownBlock]at E,fun g I Q=>by omega,fun I=>by omega,fun I=>by omega,fun g E=>by simp[Value.ownBlock]at E,fun g E=>by simp[Value.ownBlock]at E,fun g E=>by omega⟩
 have hlen:i.length+1=(i++[d.heap.size]).length:=by simp
 rw[hlen]at x7;refine⟨e,h,s,bQ,i++[d.heap.size],l,n,q,fun C=>if C=i.length then(fun g=>u.heap.size<=g/\g<=d.heap.size) else j C,fun g=>k g\/(d.heap.size<g/\g<L.heap.size),⟨alE Q4,x7,b4 p.a fun v F=>X v _ _ (p.cx v F) (P p.a F) (by decide) (by decide),b4 p.b fun v F=>X v _ _ (p.sf v F) (P p.b F) (by decide) (by decide),b4 p.c fun v F=>X v _ _ (p.rc v F) (P p.c F) (by decide) (by decide),fun x W=> ?_,fun kf h9 g r6 wR ar=> ?_,fun x g W=> ?_,fun x g W=> ?_,fun g M=> ?_,.inl p.l8,fun g E=> ?_,fun v F=>.inl (p.cx v F),fun v F=>.inl (p.sf v F),fun v F=>.inl (p.rc v F),
  (p.wD.af fun v R t F P U=>X v R t F P (by rcases U with rfl|rfl<;>decide) (by rcases U with rfl|rfl<;>decide)).mono (fun v F=>Or.inl F),(p.B4.af fun v R t F P U=>X v R t F P (by rcases U with rfl|rfl<;>decide) (by rcases U with rfl|rfl<;>decide)).mono (fun v F=>Or.inl F),(p.gN.af fun v R t F P U=>X v R t F P (by rcases U with rfl|rfl<;>decide) (by rcases U with rfl|rfl<;>decide)).mono (fun v F=>Or.inl F),by simp;have :=p.vB;omega,aoS p.ox (apn _),aoS p.qt (apn _),aoS p.oy (apn _),by have :=p.bs;omega⟩,?_⟩
 ·by_cases hl:x<i.length
  ·rw[aqn hl]
   simp only[if_neg (show x≠i.length by omega)];exact((p.fs x hl).gB (by omega) fun g hF=>Ei x g hl hF).more (apn _)
  ·have :x=i.length:=by simp at W;omega
   subst this;simp;exact⟨r,z,.slice none 0 0,[],_,_,N,sp,_,by simp,mQ⟩
 ·simp at r6 wR
  by_cases I:kf=i.length
  ·have Q:h9≠i.length:=fun w=>ar (I.trans w.symm)
   simp only[if_pos I,if_neg Q];intro hF vn;have :=(p.fs h9 (by omega)).lt g vn;omega
  ·by_cases Q:h9=i.length
   ·simp only[if_pos Q,if_neg I]
    intro hF vn;have :=(p.fs kf (by omega)).lt g hF;omega
   ·simp only[if_neg I,if_neg Q]
    exact p.jy kf h9 g (by omega) (by omega) ar
 ·simp at W
  by_cases I:x=i.length
  ·simp only[if_pos I];intro hF;have :=p.bs;omega
  ·simp only[if_neg I];exact p.pM x g (by omega)
 ·simp at W
  by_cases I:x=i.length
  ·simp only[if_pos I]
   intro hF M;rcases M with M|M
   ·have :=(p.aY g M).2;omega
   ·omega
  ·simp only[if_neg I]
   intro hF M;have :=(p.fs x (by omega)).lt g hF;rcases M with M|M
   ·exact p.cd x g (by omega) hF M
   ·omega
 ·rcases M with M|M
  ·exact⟨(p.aY g M).1,by have :=(p.aY g M).2;omega⟩
  ·have :=p.bs;exact⟨by omega,by omega⟩
 ·rcases hn with hn|hn
  ·rw[hn]at E;exact .inl (p.se g E)
  ·have I:=hn g E
   simp at I;exact .inr ⟨by omega,by have :=(aoT ae g E).2;omega⟩
 ·have js:=p.bs
  have U:aP (fun g=>g=m\/f.ownBlock=some g) u (L.setCell (H m) e):=
   (aP.cQ (aq.trans (Y.mono hz1))).trans ((aP.cQ (((aoQ _ d).alloc (aoP _) _).alloc (by simp) _)).trans ((aP.rN ah fun g E=>.inr E).trans (aP.lf _ (.inl rfl))))
  refine U.under (fun g E=> ?_) js;rcases E with rfl|E
  ·exact(p.aY _ p.l8).1
  ·exact(p.aY g (p.se g E)).1
theorem alF(N s:Nat)(c:1<=N)(d:N<=4)(f:1<=s)(g:s<=50)(w:World):
  O 37 #[A N,A s] w fun e a=>J w a/\∃x,e=.returned (.tuple #[Z x,A 0])/\uu a x (fun k=>w.heap.size<=k/\k<a.heap.size) N s sn:=
 (akM N s c d f g w).mono fun e a ⟨i,r,x,j,l⟩=>⟨i,r,j,_,_,x,l,fun k b=>b.elim id fun h=>h.elim,fun k b=>b.2⟩
theorem alG(N s:Nat)(f:1<=N)(g:N<=4)(h:1<=s)(i:s<=50)(w:World):
  O 93 #[A N,A s] w fun e b=>J w b/\∃r,e=.returned (.tuple #[Z r,A 0])/\tv b r (fun k=>w.heap.size<=k/\k<b.heap.size) N sn:=
 (aku N s f g h i w).mono fun e b ⟨j,r,F,L,x,l,c,d⟩=>⟨j,r,l,F,L,_,x,c,fun k a=>by
  rcases a with a|a|a
  ·exact⟨d k (.inl a),c.cx.lt k a⟩
  ·exact⟨d k (.inr a),c.lt k a⟩
  ·exact a.elim,fun k a=>a.2⟩
theorem alH{base}(g:jF base a b e f h i l n q j k m d)(mZ:m<2000000000000)(p B:Int):
  O 66 #[Z a,A p,A B] d fun s w'=>s=.returned (.bool true)/\jc base a (m+1) d w':=by
 by_cases C:1<=p/\p<=4/\1<=B/\B<=50
 ·obtain⟨N,rfl⟩:∃N:Nat,p=N:=⟨p.toNat,by omega⟩
  obtain⟨M,rfl⟩:∃N:Nat,B=N:=⟨B.toNat,by omega⟩;have D:=aa (alF N M (by omega) (by omega) (by omega) (by omega) d);have E:=aa (alG N M (by omega) (by omega) (by omega) (by omega));have P:=aa g;have yv:=g.vB;obtain⟨t,c,rfl,kx,fZ,aD⟩:=bp g.bE;have cP:=(g.aY a g.l8).2;clear g aD C;go_enter func66,ntmps66;go_wp2_with (first
   |(go_at_call 37;refine D.o.mono ?_;rintro s Q ⟨R,x,rfl,S⟩;have F:=aa R;have bS:=aa S;clear R S)
   |(go_at_call 93;refine(E.o Q).mono ?_;rintro s w ⟨U,r,rfl,W⟩;have I:=aa U;have fc:=aa W;clear U W;have hz1:=F.o.size;have hz2:=I.o.size;have z:=aa ((P.o.below F.o).below I.o);have y0:w.cell? (H a)=some (.slice t i.length c):=(by simp[World.cell?,z.o.y]);have lM:=aa (show((w.alloc (.cells #[Z x,Z r,.slice none 0 0] 135)).alloc (.cells #[Z w.heap.size] 132)).ownsRow 0 132 1 (.slice t i.length c) i.length (i.flatMap iD) from c5 z.o.bE (by go_grown));have n9:=aa (show ∀v u,(iD w.heap.size)[v]?=some u->((w.alloc (.cells #[Z x,Z r,.slice none 0 0] 135)).alloc (.cells #[Z w.heap.size] 132)).cell? (K (w.heap.size+1) v)=some u from O4 (by simp[go_sem]));have pT:=aa (show some a≠(Value.slice t i.length c).ownBlock from fun hS=>by(obtain⟨cur,C⟩:=bt z.o.bE hS.symm;exact absurd (bz C z.o.y) (by decide))))
   |(at_builtin;refine zd iD 1 8 77 132 (.pointer none) (by kernel_rfl) underlying77 rfl (by omega) (fun _=>rfl) rfl (.tmp 39) (.tmp 44) rfl 0 (.slice t i.length c) i rfl lM.o (w.heap.size+1) 1 w.heap.size rfl n9.o (O3 _) (by omega) (by unfold maxLen;omega) (aoR _) ?_;intro v4 w4 X L Y;have eE:=aa X;have kF:=aa L;have jw:=aa Y;have gn:=aa ((L.block a (by simp;omega) pT.o).trans ((ec (by simp;omega)).trans ((ec (by omega)).trans z.o.y)));clear X L Y;obtain⟨a4,kc,rfl,q0,ta,ub⟩:=bp eE.o;clear q0 ta ub;have bd:w4.cell? (H a)=some (.slice t i.length c):=(by simp[World.cell?,gn.o]);have vH:=cS gn.o 0))
  go_ret
  exact⟨rfl,P.o.opened F.o bS.o I.o fc.o eE.o kF.o jw.o⟩
 ·have D:=aa (akL p B C)
  have E:=aa (adN p B (by omega));have z:=aa (show jc base a (m+1) d d from⟨_,_,_,_,_,_,_,_,_,_,g.more (apn _),aoQ _ _⟩);clear g C;go_enter func66,ntmps66;go_wp2_with (first
   |(go_at_call 37;refine(D.o d).mono ?_;rintro s Q ⟨rfl,rfl⟩)
   |(go_at_call 93;refine(E.o _).mono ?_;rintro s w ⟨rfl,rfl⟩))
  go_ret
  exact⟨rfl,z.o⟩
def Ej (f:Int):Prop:=∀(w:World) (g:Nat) (F:Nat->Prop) (h:Nat),ki w g F h->∀o:jD,13<=o.kind->o.kind<=f->O 70 #[Z g,.agg #[A o.kind,A o.r,A o.c,A o.d,A o.i1,A o.i2,A o.made,.string o.key,A o.a,A o.b,.bool o.yes]] w fun e i=>e=.returned (.bool true)/\vz w g F (h+1) i
theorem aaO{base z w p}(g:jF base z e f h s i l n q j k w u)(x:m<i.length)(o:jD)(D:Ej p)(y:13<=o.kind)(v:o.kind<=p):
  O 70 #[Z (i[m]),.agg #[A o.kind,A o.r,A o.c,A o.d,A o.i1,A o.i2,A o.made,.string o.key,A o.a,A o.b,.bool o.yes]] u fun t B=>t=.returned (.bool true)/\jc base z (w+1) u B:=by
 refine(D u i[m] (j m) w (g.fs m x) o y v).mono fun t B C=>⟨C.1,?_⟩
 obtain⟨E,y,v⟩:=C.2;exact⟨_,_,_,_,_,_,_,_,_,_,(g.more (apn _)).room x y v,g.under x v⟩
theorem aaP{base C w}(p:jF base C e f h s i l n q j k w u)(y:w<2000000000000)(z:m<i.length)(o:jD)(v:pV o)(B:2<=o.kind)(R:o.kind<=8):
  O 68 #[Z (i[m]),.agg #[A o.kind,A o.r,A o.c,A o.d,A o.i1,A o.i2,A o.made,.string o.key,A o.a,A o.b,.bool o.yes]] u fun g x=>g=.returned (.bool true)/\jc base C (w+1) u x:=by
 have t:=p.fs m z;have E:O 68 #[Z (i[m]),.agg #[A o.kind,A o.r,A o.c,A o.d,A o.i1,A o.i2,A o.made,.string o.key,A o.a,A o.b,.bool o.yes]] u fun g x=>g=.returned (.bool true)/\vz u i[m] (j m) (w+1) x:=by
  by_cases F:o.kind=2
  ·exact ak9 t o v F
  by_cases I:o.kind=3
  ·exact alx t o v I y
  by_cases L:o.kind=4
  ·exact ala t o v L
  by_cases M:o.kind=5
  ·exact aly t o v M y
  by_cases N:o.kind=6
  ·exact alz t o N y
  by_cases P:o.kind=7
  ·exact alb t o v P
  ·exact alc t o (by omega)
 refine E.mono fun g x D=>⟨D.1,?_⟩
 obtain⟨S,Q,B⟩:=D.2;exact⟨_,_,_,_,_,_,_,_,_,_,(p.more (apn _)).room z Q B,p.under z B⟩
theorem aaQ{base gy X}(p:jF base gy e f h s i l n q j k X u)(mZ:X<2000000000000)(B:m<i.length)(o:jD)(z:pV o)(oA:Pow u)(C:9<=o.kind)(tV:o.kind<=12):
  O 69 #[Z gy,Z (i[m]),.agg #[A o.kind,A o.r,A o.c,A o.d,A o.i1,A o.i2,A o.made,.string o.key,A o.a,A o.b,.bool o.yes]] u fun w L=>w=.returned (.bool true)/\jc base gy (X+1) u L:=by
 have W:=p.fs m B;have hna:=p.ox;have v8:=p.qt;have J1:=p.oy;by_cases M7:o.kind=9
 ·refine(alq W (gy:=gy) o M7 oA).mono fun w L D=>⟨D.1,?_⟩
  obtain⟨I,F,C,_⟩:=D.2;exact⟨_,_,_,_,_,_,_,_,_,_,(p.more (apn _)).room B (F.more (apn _)) C,p.under B C⟩
 have Y:∀{wm:World} {I:Nat->Prop} {v:Value},(∀g,I g->j m g)->(∀g,v.ownBlock=some g->u.heap.size<=g)->(∀g,v.ownBlock=some g->∀t,t<i.length->¬(if t=m then I else j t) g)/\(∀g,v.ownBlock=some g->¬k g):=fun pI aH=>by
  refine⟨fun g z t ar hF=> ?_,fun g z bB=>by have :=aH g z;have :=(p.aY g bB).2;omega⟩;have eh:=aH g z;by_cases mG:t=m
  ·rw[if_pos mG]at hF
   have :=(p.fs m B).lt g (pI g hF);omega
  ·rw[if_neg mG]at hF
   have :=(p.fs t ar).lt g hF;omega
 by_cases M8:o.kind=10
 ·refine(alr W o M8 p.y (fun hF=>p.cd m _ B hF p.l8) (by omega) p.a (fun g z hF=>p.cd m g B hF (p.cx g z))).mono fun w L D=>⟨D.1,?_⟩
  obtain⟨wm,v,x,I,F,C,M,E,bW,N⟩:=D.2;have P:=p.room B F C;obtain⟨Q,R⟩:=Y (wm:=wm) M E;obtain⟨pe,lR,vb',uB,aaR,la',lb',lc',FF',k7,S,U⟩:=P.alA N Q fun g z=>⟨R g z,by have :=E g z;have :=p.bs;omega⟩
  exact⟨_,_,_,_,_,_,_,_,_,_,S,(p.under B C).trans U⟩
 by_cases e11:o.kind=11
 ·refine(als W o e11 p.y (fun hF=>p.cd m _ B hF p.l8) (by omega) p.b (fun g z hF=>p.cd m g B hF (p.sf g z)) z.key).mono fun w L D=>⟨D.1,?_⟩
  obtain⟨wm,v,x,I,F,C,M,E,bW,N⟩:=D.2;have P:=p.room B F C;obtain⟨Q,R⟩:=Y (wm:=wm) M E;obtain⟨pe,lR,vb',uB,aaR,la',lb',lc',FF',k7,S,U⟩:=P.alB N Q fun g z=>⟨R g z,by have :=E g z;have :=p.bs;omega⟩
  exact⟨_,_,_,_,_,_,_,_,_,_,S,(p.under B C).trans U⟩
 ·refine(alw W o (by omega) p.y (fun hF=>p.cd m _ B hF p.l8) (by omega) p.c (fun g z hF=>p.cd m g B hF (p.rc g z))).mono fun w L D=>⟨D.1,?_⟩
  obtain⟨wm,v,x,I,F,C,M,E,bW,N⟩:=D.2;have P:=p.room B F C;obtain⟨Q,R⟩:=Y (wm:=wm) M E;obtain⟨pe,lR,vb',uB,aaR,la',lb',lc',FF',k7,S,U⟩:=P.alC N Q fun g z=>⟨R g z,by have :=E g z;have :=p.bs;omega⟩
  exact⟨_,_,_,_,_,_,_,_,_,_,S,(p.under B C).trans U⟩
end
section
open Go.RowKit Tryz
attribute [local go_sem ↓] Go.wp_at_zero Go.wp_at_succ
variable {a d s u:Nat}{b:World}{e j l n:List Nat}{f:Nat->Nat->Prop}{h:Nat->Prop}{i k m q v:Value}{r:Int}
theorem JD{W:World}{b c d e f g h i:Int}{j:ByteArray}{yes:Bool}(k:W.heap[a]?=some (.cells #[A r,A b,A c,A d,A e,A f,A g,.string j,A h,A i,.bool yes] 87 (0,0))):
  W.cell? (H a)=some (A r)/\W.cell? (K a 1)=some (A b)/\W.cell? (K a 2)=some (A c)/\W.cell? (K a 3)=some (A d)/\W.cell? (K a 4)=some (A e)/\W.cell? (K a 5)=some (A f)/\W.cell? (K a 6)=some (A g)/\W.cell? (K a 7)=some (.string j)/\W.cell? (K a 8)=some (A h)/\W.cell? (K a 9)=some (A i)/\W.cell? (K a 10)=some (.bool yes):=by
 refine⟨?_,?_,?_,?_,?_,?_,?_,?_,?_,?_,?_⟩<;>simp[World.cell?,k]
theorem aaS{c:TypeId}(h:b.ownsRow 0 c 1 (.slice (some (H d)) a s) a (e.flatMap iD))(g:a=e.length)(i:Nat)(j:i<e.length):b.cell? (K d i)=some (Z (e[i])):=by
 have :=iw (f:=iD) (k:=1) (fun _=>rfl) h g i j 0 (by omega);simpa[iD]using this
theorem jc.from{w'}{base:Nat}{w:World}(c:J w b)(e:base<=w.heap.size)(h:jc base a d b w'):jc base a d w w':=by
 obtain⟨f,g,i,j,k,l,m,n,o,R,p,q⟩:=h;exact⟨f,g,i,j,k,l,m,n,o,R,p,(c.mono e).trans q⟩
theorem alI{base w}(g:jF base s i k m q e j l n f h u w)(x:u<2000000000000)(o:jD)(y:o.kind=1):
  O 35 #[Z s,.agg #[A o.kind,A o.r,A o.c,A o.d,A o.i1,A o.i2,A o.made,.string o.key,A o.a,A o.b,.bool o.yes]] w fun p z=>p=.returned (.bool true)/\jc base s (u+1) w z:=by
 rw[y];have t:=aa ((aoQ w.heap.size w).alloc (aoP _) (.cells #[A 1,A o.r,A o.c,A o.d,A o.i1,A o.i2,A o.made,.string o.key,A o.a,A o.b,.bool o.yes] 87));have B:=aa (alH (g.below t.o) x o.a o.b);have C:=g.bs;clear g;go_enter func35,ntmps35;go_wp2_with (first
  |(go_at_call 66;refine B.o.mono ?_;rintro p E ⟨rfl,v⟩;have D:=aa v;clear v))
 go_ret
 exact⟨rfl,D.o.from t.o C⟩
theorem alJ{base w}(g:jF base a i k m q e j l n f h s w)(o:jD)(C:2<=o.kind/\o.kind<=22)(v:e.length=0):
  O 35 #[Z a,.agg #[A o.kind,A o.r,A o.c,A o.d,A o.i1,A o.i2,A o.made,.string o.key,A o.a,A o.b,.bool o.yes]] w fun p x=>p=.returned (.bool true)/\jc base a (s+1) w x:=by
 have u:=aa ((aoQ w.heap.size w).alloc (aoP _) (.cells #[A o.kind,A o.r,A o.c,A o.d,A o.i1,A o.i2,A o.made,.string o.key,A o.a,A o.b,.bool o.yes] 87));obtain⟨t,c,rfl,D,E,z⟩:=bp g.bE;have F:(w.alloc (.cells #[A o.kind,A o.r,A o.c,A o.d,A o.i1,A o.i2,A o.made,.string o.key,A o.a,A o.b,.bool o.yes] 87)).cell? (H a)=some (.slice t 0 c):=by
  have :=(g.below u.o).y;simp[World.cell?,this,v]
 have I:=(g.aY a g.l8).2;have L:a≠w.heap.size:=by omega
 have B:=aa (show jc base a (s+1) w (w.alloc (.cells #[A o.kind,A o.r,A o.c,A o.d,A o.i1,A o.i2,A o.made,.string o.key,A o.a,A o.b,.bool o.yes] 87)) from⟨_,_,_,_,_,_,_,_,_,_,(g.below u.o).more (apn _),u.o.mono g.bs⟩);have M:¬(o.kind=1):=by omega
 have N:¬(o.kind<2):=by omega
 have P:¬(22<o.kind):=by omega
 clear g z;go_enter func35,ntmps35;go_wp2;go_ret
 exact⟨rfl,B.o⟩
theorem alK{base R w C}(h:jF base a k m q v e j l n f R s w)(mZ:s<2000000000000)(o:jD)(x:pV o)(oA:Pow w)(cl:Ej r)(cw:r<=22)(eH:2<=o.kind/\o.kind<=r)(L:0<e.length){p:Nat}(P:w.heap[e[vA o.r e.length]'(yw _ L)]?=some (.cells #[Z u,Z p,i] 135 (0,0)))(S:gu 0 w i C)(U:0<o.made/\0<C.length):
  O 35 #[Z a,.agg #[A o.kind,A o.r,A o.c,A o.d,A o.i1,A o.i2,A o.made,.string o.key,A o.a,A o.b,.bool o.yes]] w fun g w'=>g=.returned (.bool true)/\jc base a (s+1) w w':=by
 have E:=aa ((aoQ w.heap.size w).alloc (aoP _) (.cells #[A o.kind,A o.r,A o.c,A o.d,A o.i1,A o.i2,A o.made,.string o.key,A o.a,A o.b,.bool o.yes] 87));have aT:=aa (bL w (.cells #[A o.kind,A o.r,A o.c,A o.d,A o.i1,A o.i2,A o.made,.string o.key,A o.a,A o.b,.bool o.yes] 87));have X:=h.bs;have yv:=h.vB;have uo:=(h.aY a h.l8).2;have Jc:a≠w.heap.size:=by omega
 have M:=yw o.r L;have Na:=aa (SI o.r e.length x.r.1 x.r.2 L (by omega));have dH:=aa (fun W (F:J w W) (z B:Int) (tV:o.kind<=8)=>aaP (h.below F) mZ M {o with i1:=z,i2:=B} ⟨x.r,x.made,x.a,x.b,x.key⟩ eH.1 tV);have hT:=aa (fun W (F:J w W) (z B:Int) (th:9<=o.kind) (ou:o.kind<=12)=>aaQ (h.below F) mZ M {o with i1:=z,i2:=B} ⟨x.r,x.made,x.a,x.b,x.key⟩ (oA.af F) th ou);have sX:=aa (fun W (F:J w W) (z B:Int) (SL:13<=o.kind)=>aaO (h.below F) M {o with i1:=z,i2:=B} cl SL eH.2);obtain⟨t,c,rfl,kx,fZ,aD⟩:=bp h.bE;obtain⟨Y,rfl⟩:=aD _ M;have y0:w.cell? (H a)=some (.slice (some (H Y)) e.length c):=by simp[World.cell?,h.y]
 have eO:=aaS h.bE rfl _ M;have k5:=aa P;have fl:=aM P;obtain⟨at',Nb,rfl,KS,jv,Nc⟩:=bp S;unfold maxLen at jv;have t2:w.cell? (K (e[vA o.r e.length]'(yw _ L)) 2)=some (.slice at' C.length Nb):=(Eb P).2.2;have Nd:=af E.o y0;have HS:=af E.o eO;have t2':=af E.o t2;have l5:=aa y0;have ko:=aa eO;have iC:=aa t2;have ar:=yw o.made U.2;have G4:=aa (SI o.made C.length x.made.1 x.made.2 U.2 (by omega));obtain⟨gt,rfl⟩:=Nc _ ar;obtain⟨jS,q1⟩:=er.cells S rfl _ ar;have oC:=aa jS;have oN:=aa q1;have lu:=ao4 w _ jS;simp only at lu;generalize hpj:vA o.made C.length=I at *;generalize r6:(C[I]).1=z at *;generalize wR:(C[I]).2=B at *;have anX:(0:Int)<=(I:Int):=ao0 _;have anY:(I:Int)<(C.length:Int):=by omega
 have bf:=aa ((aoQ w.heap.size w).alloc (aoP _) (.cells #[A o.kind,A o.r,A o.c,A o.d,A z,A B,A o.made,.string o.key,A o.a,A o.b,.bool o.yes] 87)).drew.drew;have cz:=aa (bL w (.cells #[A o.kind,A o.r,A o.c,A o.d,A z,A B,A o.made,.string o.key,A o.a,A o.b,.bool o.yes] 87));have mn:0<o.made:=U.1;have o3:(0:Int)<(C.length:Int):=by omega
 generalize e[vA o.r e.length]'(yw _ L)=aJ at *;generalize vA o.r e.length=pi at *;have alL:(0:Int)<=(pi:Int):=ao0 _;have alM:(pi:Int)<(e.length:Int):=by omega
 have hz0:¬((e.length:Int)=0):=by omega
 have hz1:¬(e.length=0):=by omega
 have c3:¬(o.kind=1):=by omega
 have cF:¬(o.kind<2):=by omega
 have hp:¬(22<o.kind):=by omega
 clear h aD S Nc P x;go_enter func35,ntmps35;go_wp2;go_region_held3 (fun W=>W.cell? (H a)=some (.slice (some (H Y)) e.length c)/\W.cell? (V w 1)=some (A o.r)/\W.cell? (K Y pi)=some (Z aJ)) (first |exact⟨Nd,(JD aT.o).2.1,HS⟩)
  (first |(go_at_call 67;refine(Na.o _).mono ?_;rintro g Q ⟨rfl,rfl⟩))
 go_wp2;go_region_held3 (fun W=>W.cell? (K aJ 2)=some (.slice (some (H gt)) C.length Nb)/\W.cell? (V w 6)=some (A o.made)/\W.cell? (K gt (I*2))=some (A z)/\W.cell? (K gt (I*2+1))=some (A B)) (first |exact⟨af E.o.drew iC.o,(JD (W:=(w.alloc (.cells #[A o.kind,A o.r,A o.c,A o.d,A o.i1,A o.i2,A o.made,.string o.key,A o.a,A o.b,.bool o.yes] 87)).drew) aT.o).2.2.2.2.2.2.1,af E.o.drew oC.o,af E.o.drew oN.o⟩|exact⟨af bf.o iC.o,(JD (W:=(w.alloc (.cells #[A o.kind,A o.r,A o.c,A o.d,A z,A B,A o.made,.string o.key,A o.a,A o.b,.bool o.yes] 87)).drew.drew) cz.o).2.2.2.2.2.2.1,af bf.o oC.o,af bf.o oN.o⟩)
  (first |(go_at_call 67;refine(G4.o _).mono ?_;rintro g Q ⟨rfl,rfl⟩))
 by_cases JE:o.kind<=8
 ·go_wp2_with (first
   |(go_at_call 68;refine(dH.o _ (((aoQ w.heap.size w).alloc (aoP _) _).drew.drew) z B JE).mono ?_;rintro g Q ⟨rfl,D⟩;have N:=aa D;clear D))
  go_ret
  exact⟨rfl,N.o.from (((aoQ w.heap.size w).alloc (aoP _) _).drew.drew) X⟩
 ·by_cases JF:o.kind<=12
  ·go_wp2_with (first
    |(go_at_call 69;refine(hT.o _ (((aoQ w.heap.size w).alloc (aoP _) _).drew.drew) z B (by omega) JF).mono ?_;rintro g Q ⟨rfl,D⟩;have N:=aa D;clear D))
   go_ret
   exact⟨rfl,N.o.from (((aoQ w.heap.size w).alloc (aoP _) _).drew.drew) X⟩
  ·go_wp2_with (first
    |(go_at_call 70;refine(sX.o _ (((aoQ w.heap.size w).alloc (aoP _) _).drew.drew) z B (by omega)).mono ?_;rintro g Q ⟨rfl,D⟩;have N:=aa D;clear D))
   go_ret
   exact⟨rfl,N.o.from (((aoQ w.heap.size w).alloc (aoP _) _).drew.drew) X⟩
theorem alN{base R w I}(h:jF base a k m q v e j l n f R s w)(mZ:s<2000000000000)(o:jD)(z:pV o)(oA:Pow w)(cl:Ej r)(cw:r<=22)(eH:2<=o.kind/\o.kind<=r)(F:0<e.length){p:Nat}(Q:w.heap[e[vA o.r e.length]'(yw _ F)]?=some (.cells #[Z u,Z p,i] 135 (0,0)))(fA:gu 0 w i I)(M9:¬(0<o.made/\0<I.length)):
  O 35 #[Z a,.agg #[A o.kind,A o.r,A o.c,A o.d,A o.i1,A o.i2,A o.made,.string o.key,A o.a,A o.b,.bool o.yes]] w fun g w'=>g=.returned (.bool true)/\jc base a (s+1) w w':=by
 have U:=aa ((aoQ w.heap.size w).alloc (aoP _) (.cells #[A o.kind,A o.r,A o.c,A o.d,A o.i1,A o.i2,A o.made,.string o.key,A o.a,A o.b,.bool o.yes] 87));have aT:=aa (bL w (.cells #[A o.kind,A o.r,A o.c,A o.d,A o.i1,A o.i2,A o.made,.string o.key,A o.a,A o.b,.bool o.yes] 87));have D:=h.bs;have yv:=h.vB;have uo:=(h.aY a h.l8).2;have Jc:a≠w.heap.size:=by omega
 have L:=yw o.r F;have Na:=aa (SI o.r e.length z.r.1 z.r.2 F (by omega));have dH:=aa (fun W (E:J w W) (M N:Int) (tV:o.kind<=8)=>aaP (h.below E) mZ L {o with i1:=M,i2:=N} ⟨z.r,z.made,z.a,z.b,z.key⟩ eH.1 tV);have hT:=aa (fun W (E:J w W) (M N:Int) (th:9<=o.kind) (ou:o.kind<=12)=>aaQ (h.below E) mZ L {o with i1:=M,i2:=N} ⟨z.r,z.made,z.a,z.b,z.key⟩ (oA.af E) th ou);have sX:=aa (fun W (E:J w W) (M N:Int) (SL:13<=o.kind)=>aaO (h.below E) L {o with i1:=M,i2:=N} cl SL eH.2);obtain⟨t,c,rfl,kx,fZ,aD⟩:=bp h.bE;obtain⟨P,rfl⟩:=aD _ L;have y0:w.cell? (H a)=some (.slice (some (H P)) e.length c):=by simp[World.cell?,h.y]
 have eO:=aaS h.bE rfl _ L;have k5:=aa Q;have fl:=aM Q;obtain⟨at',Nb,rfl,KS,jv,Nc⟩:=bp fA;unfold maxLen at jv;have t2:w.cell? (K (e[vA o.r e.length]'(yw _ F)) 2)=some (.slice at' I.length Nb):=(Eb Q).2.2;have Nd:=af U.o y0;have HS:=af U.o eO;have t2':=af U.o t2;have l5:=aa y0;have ko:=aa eO;have iC:=aa t2;generalize e[vA o.r e.length]'(yw _ F)=aJ at *;generalize vA o.r e.length=S at *;have alL:(0:Int)<=(S:Int):=ao0 _;have alM:(S:Int)<(e.length:Int):=by omega
 have hz0:¬((e.length:Int)=0):=by omega
 have hz1:¬(e.length=0):=by omega
 have c3:¬(o.kind=1):=by omega
 have cF:¬(o.kind<2):=by omega
 have hp:¬(22<o.kind):=by omega
 clear h aD fA Nc Q z;by_cases mn:0<o.made
 ·have o3:¬((0:Int)<(I.length:Int)):=by omega
  have lC:I.length=0:=by omega
  go_enter func35,ntmps35;go_wp2;go_region_held3 (fun W=>W.cell? (H a)=some (.slice (some (H P)) e.length c)/\W.cell? (V w 1)=some (A o.r)/\W.cell? (K P S)=some (Z aJ)) (first |exact⟨Nd,(JD aT.o).2.1,HS⟩)
   (first |(go_at_call 67;refine(Na.o _).mono ?_;rintro g C ⟨rfl,rfl⟩))
  by_cases X:o.kind<=8
  ·go_wp2_with (first
    |(go_at_call 68;refine(dH.o _ (((aoQ w.heap.size w).alloc (aoP _) _).drew) o.i1 o.i2 X).mono ?_;rintro g C ⟨rfl,x⟩;have B:=aa x;clear x))
   go_ret
   exact⟨rfl,B.o.from (((aoQ w.heap.size w).alloc (aoP _) _).drew) D⟩
  ·by_cases Y:o.kind<=12
   ·go_wp2_with (first
     |(go_at_call 69;refine(hT.o _ (((aoQ w.heap.size w).alloc (aoP _) _).drew) o.i1 o.i2 (by omega) Y).mono ?_;rintro g C ⟨rfl,x⟩;have B:=aa x;clear x))
    go_ret
    exact⟨rfl,B.o.from (((aoQ w.heap.size w).alloc (aoP _) _).drew) D⟩
   ·go_wp2_with (first
     |(go_at_call 70;refine(sX.o _ (((aoQ w.heap.size w).alloc (aoP _) _).drew) o.i1 o.i2 (by omega)).mono ?_;rintro g C ⟨rfl,x⟩;have B:=aa x;clear x))
    go_ret
    exact⟨rfl,B.o.from (((aoQ w.heap.size w).alloc (aoP _) _).drew) D⟩
 ·go_enter func35,ntmps35
  go_wp2;go_region_held3 (fun W=>W.cell? (H a)=some (.slice (some (H P)) e.length c)/\W.cell? (V w 1)=some (A o.r)/\W.cell? (K P S)=some (Z aJ)) (first |exact⟨Nd,(JD aT.o).2.1,HS⟩)
   (first |(go_at_call 67;refine(Na.o _).mono ?_;rintro g C ⟨rfl,rfl⟩))
  by_cases X:o.kind<=8
  ·go_wp2_with (first
    |(go_at_call 68;refine(dH.o _ (((aoQ w.heap.size w).alloc (aoP _) _).drew) o.i1 o.i2 X).mono ?_;rintro g C ⟨rfl,x⟩;have B:=aa x;clear x))
   go_ret
   exact⟨rfl,B.o.from (((aoQ w.heap.size w).alloc (aoP _) _).drew) D⟩
  ·by_cases Y:o.kind<=12
   ·go_wp2_with (first
     |(go_at_call 69;refine(hT.o _ (((aoQ w.heap.size w).alloc (aoP _) _).drew) o.i1 o.i2 (by omega) Y).mono ?_;rintro g C ⟨rfl,x⟩;have B:=aa x;clear x))
    go_ret
    exact⟨rfl,B.o.from (((aoQ w.heap.size w).alloc (aoP _) _).drew) D⟩
   ·go_wp2_with (first
     |(go_at_call 70;refine(sX.o _ (((aoQ w.heap.size w).alloc (aoP _) _).drew) o.i1 o.i2 (by omega)).mono ?_;rintro g C ⟨rfl,x⟩;have B:=aa x;clear x))
    go_ret
    exact⟨rfl,B.o.from (((aoQ w.heap.size w).alloc (aoP _) _).drew) D⟩
end
section
open Go.RowKit Tryz
theorem alO{base i v y z B j C D E F R k w f}(h:jF base i v y z B j C D E F R k w)(l:k<2000000000000)(o:jD)(n:pV o)(p:Pow w)(q:Ej f)(s:f<=22)(t:1<=o.kind/\o.kind<=f):
  O 35 #[Z i,.agg #[A o.kind,A o.r,A o.c,A o.d,A o.i1,A o.i2,A o.made,.string o.key,A o.a,A o.b,.bool o.yes]] w fun e I=>e=.returned (.bool true)/\jc base i (k+1) w I:=by
 by_cases L:o.kind=1
 ·exact alI h l o L
 by_cases M:j.length=0
 ·exact alJ h o ⟨by omega,by omega⟩ M
 have m:0<j.length:=by omega
 obtain⟨x,r,Q,told,S,U,N,W,P,X,g⟩:=h.fs _ (yw o.r m);by_cases u:0<o.made/\0<told.length
 ·exact alK h l o n p q s ⟨by omega,t.2⟩ m g.blk g.told u
 ·exact alN h l o n p q s ⟨by omega,t.2⟩ m g.blk g.told u
end
end Go.Proofs.YtnkpogjiiohapaaGreatDoor
