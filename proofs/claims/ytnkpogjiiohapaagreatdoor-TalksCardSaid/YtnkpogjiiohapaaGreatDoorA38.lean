/- Our own text. -/
import Derived.Deep.DeepCutAuto
import Derived.Deep.RegionHeld3
import Derived.Deep.DrawnRows
import Derived.Test.YtnkpogjiiohapaaGreatDoorA37
import Derived.Test.YtnkpogjiiohapaaGreatDoorA36
set_option linter.unusedSimpArgs false
set_option linter.unusedVariables false
set_option maxRecDepth 1000000
set_option maxHeartbeats 8000000
namespace Go.Proofs.YtnkpogjiiohapaaGreatDoor
section
open Go.RowKit Tryz
variable {a d h i q:Nat}{b m:World}{e f n:Nat->Prop}{j:Value}{k:List PId}{l:gW}{r:Nat->List av}{s:bO}{u:dc}
theorem aaK {β:Type}:∀{l m:List (PId×β)},(l.Pairwise fun a b=>eK a.1 b.1=true)->(m.Pairwise fun a b=>eK a.1 b.1=true)->l.Perm m->l=m
 |[],m,_,_,c=>c.nil_eq
 |a::l,[],_,_,c=>absurd c.length_eq (by simp)
 |a::l,b::m,e,f,c=>by
  obtain⟨g,i⟩:=apP.1 e;obtain⟨j,k⟩:=apP.1 f;have n:a=b:=by
   rcases ao3.1 (c.mem_iff.1 (ao6 (a:=a) (l:=l))) with h|h
   ·exact h
   ·rcases ao3.1 (c.mem_iff.2 (ao6 (a:=b) (l:=m))) with d|d
    ·exact d.symm
    ·have :=A7 (g b d) (j a h)
     rw[uc]at this;cases this
  subst n;rw[aaK i k ((List.perm_cons a).1 c)]
theorem alg{D:List ba}{x:PId}{a:ByteArray}{m:Int}(h:lQ D x a=.error m):uD D x a=.error m:=by
 unfold uD;rw[h]
theorem alh(b:a<=4):lJ (a+1)<=1125899906842620:=by
 have c:lJ 0=1:=rfl;have d:lJ 1=2+240*(28+lJ 0):=rfl;have e:lJ 2=2+240*(28+lJ 1):=rfl;have f:lJ 3=2+240*(28+lJ 2):=rfl;have g:lJ 4=2+240*(28+lJ 3):=rfl;have h:lJ 5=2+240*(28+lJ 4):=rfl;have :a=0\/a=1\/a=2\/a=3\/a=4:=by omega
 rcases this with rfl|rfl|rfl|rfl|rfl<;>simp only[apF,Nat.reduceAdd]<;>omega
theorem ali{f:Nat->Int}{g:Nat->Nat}(h:kJ d b j ((List.range a).map g))(m:∀i,i<a->f i=(g i:Int)):qp d b j (kG a f):=by
 have e:∀l:List Nat,(∀i∈l,i<a)->(l.map g).flatMap o7=(l.map f).flatMap wu:=fun l k=>by
  induction l with
  |nil=>rfl
  |cons i l ih=>
   rw[apb,apb,ape,ape,ih fun c n=>k c (apa _ n),m i (k i ao6)];rfl
 unfold kJ at h;unfold qp kG;rw[e _ fun i o=>apQ.1 o,aoU]at h;rw[aoU];exact h
theorem aaL{f:ba->ba}(b:∀o,(f o).id=o.id):∀(l:List ba) (k:Nat),(l.modify k f).map ba.id=l.map ba.id
 |[],_=>by simp
 |a::l,0=>by simp[b]
 |a::l,k+1=>by simp[aaL b l k]
theorem aaM:∀(S:List bu) (R:List ba),(R.map ba.id).Nodup->(∀p∈S,p.id∉R.map ba.id)->(S.map (·.id)).Nodup->((S.foldl b0 R).map ba.id).Nodup
 |[],_,h,_,_=>h
 |p::S,R,h,d,k=>by
  obtain⟨l,m⟩:=apg.1 k;have n:=d p ao6;have f:∀q∈S,q.id≠p.id:=fun q f e=>l (aoX.2 ⟨q,f,e⟩)
  rw[aqr];have i:(b0 R p).map ba.id=R.map ba.id++[p.id]\/(b0 R p).map ba.id=R.map ba.id:=by
   unfold b0;split
   ·exact .inl (by rw[ao8];rfl)
   ·split
    ·exact .inr rfl
    ·exact .inr (aaL (Ud p) _ _)
  refine aaM S _ ?_ (fun q g c=> ?_) m
  ·rcases i with e|e
   ·rw[e]
    exact aps.2 ⟨h,by simp,fun a o b j r=>by rw[ao2]at j;subst j r;exact n o⟩
   ·rw[e];exact h
  ·rcases i with e|e
   ·rw[e]at c
    rcases aoZ.1 c with c|c
    ·exact d q (apa _ g) c
    ·exact f q g (ao2.1 c)
   ·rw[e]at c
    exact d q (apa _ g) c
theorem dJ.ids(g:dJ b h e f d i r s u)(n:a<d):((cn (s.ops a)).map ba.id).Nodup:=by
 refine aaM _ c2 (by simp[c2]) (fun p v q=> ?_) ?_
 ·obtain⟨o,w,rfl⟩:=aoX.1 v
  obtain⟨c,x,y⟩:=(g.ok.copy a n).made w;obtain⟨j,z,B⟩:=List.getElem_of_mem y;have m:=(g.ok.made.id c x j z).2.2;rw[B]at m;simp only[c2,apb,apU,ao2,pO]at q;rw[q]at m;exact absurd m (by decide)
 ·rw[apI]
  refine apB.2 ((g.ok.kd a n).imp fun{k l} t c=> ?_);simp only[Function.comp,pO]at c;rw[c,uc]at t;cases t
theorem dJ.alj(g:dJ b h e f d i r s u)(t:a<d){k l:Int}{j:ByteArray}{o:ba}{m:List (PId×dR)}(n:bl (cn (s.ops a)) (k,l)=some o)(v:o.list=false)(p:km j=true)(x:m.Perm (eY (u.q a).D.1 (u.q a).D.2 (k,l) j (0,0)).aB)(y:mR (m.map (·.1))):uD (cn (s.ops a)) (k,l) j=.ok (m.map (·.2)):=by
 have z:j≠⟨#[]⟩:=fun c=>by rw[c]at p;exact absurd p (by decide)
 have B:=x.trans ((g.kH t).zl n v z (0,0)).2;have w:=(o6.of (g.ok.kd a t)).BG n j (0,0);rw[<-Zf]at w;have c:=aaK (apB.1 y) (apB.1 w) B;unfold uD;rw[zK n v,p,c,apI];rfl
theorem dJ.V7(c:dJ b a e f h i r s u)(k:d<h)(x:BF h r):Ko (cn (s.ops d)):=by
 have l:=c.nice x k;have z:=c.len k;have B:=(c.doc k).1;have m:=fun{o:ba} (j:o∈cn (s.ops d))=>Pj (c.ids k) j
 refine⟨fun o j t=> ?_,fun o j n p=>aoS (l.uW _ o (m j) n p) (by omega),fun o j=>l.nums _ o (m j),fun o j n p y C=>.inr ?_,fun a D o j=> ?_⟩
 ·obtain⟨I,_,v⟩:=B.bg _ o (m j)
  exact⟨apB.1 (v.CZ t),fun n p=>(v.keys t n p).1⟩
 ·obtain⟨E,w⟩:=l.sz _ o (m j) n p y C
  exact⟨E,AY w,Hl w⟩
 ·have g:=(o6.of (c.ok.kd d k)).text l (a+1) o.id
  have F:uC (oG (cn (s.ops d)) a) o.list (ie o)=oG (cn (s.ops d)) (a+1) o.id:=by
   show _=(match bl (cn (s.ops d)) o.id with |some o=>uC (oG (cn (s.ops d)) a) o.list (ie o)|none=>⟨#[]⟩);rw[m j]
  have q:=l.Le z (a+1) o.id;rw[<-g,<-F]at q;unfold uC at q;have L:lJ (a+1)<=1125899906842620:=alh D;split at q<;>simp only[jV]at q<;>omega
def Js (d w:World) (f:Nat) (F:Nat->Prop) (x r:Nat) (h:Value) (i:List PId) (j l:Nat->Prop) (N m:Nat) (P:gW) (n:Nat) (args:Array Value) (Q:Ending->World->World->Prop) (b:World):Prop:=
 b.heap[f]?=d.heap[f]?/\(∀k,k<w.heap.size->¬F k->b.heap[k]?=w.heap[k]?)/\w.heap.size<=b.heap.size/\
  ∀a,J b a->O n args a fun e c=>Q e a c/\(∃g,gX c f g x r h i j l N m P/\c0 F g d c/\∀k,g k->F k)/\∀k,d.heap.size<=k->k<a.heap.size->c.heap[k]?=a.heap[k]?
theorem Ag{B:World}(g:gX b h e i a j k f n d q l)(C:J b m){D:Nat}{args:Array Value}{Q:Ending->World->World->Prop}(u:J m B)(F:∀p e L I v,da p a e L I d l.S v->O D args p fun o w=>Q o p w/\J p w):Js b m h e i a j k f n d q l D args Q B:=by
 have E:=(g.af C).fs;obtain⟨⟨M,N,P⟩,x⟩:=aaI g C (E.gB u.size fun c r=>u.block c (E.lt c r)) (c0.cQ u);refine⟨M,N,P,fun p R=> ?_⟩;obtain⟨U,W,y⟩:=x p (Loc.cQ R);obtain⟨z,X,Y,v,hm,_⟩:=id y;refine(F p z X Y v hm).mono fun o w s=>⟨s.1,?_,fun c c3 cF=>s.2.block c cF⟩
 obtain⟨z,x,bW,eR⟩:=g.both U W (c0.cQ s.2) (y.af s.2.size fun c r=>s.2.block c (y.lt c r)) g.rel;refine⟨z,x,bW,fun c r=> ?_⟩;rcases eR c r with t|t|t
 ·exact t
 ·exact g.B0 c t
 ·exact g.cd c t
theorem alk(g:gX m i e d h j k f n a q l)(v:J m b)(z:Pow b)(C:Int):
  O 28 #[Z d,A C] b fun o w=>∃s p,o=.returned (.tuple #[.string s,A p])/\Js m b i e d h j k f n a q l 103 #[Z h,A C] (fun o _ _=>o=.returned (.tuple #[.string s,A p])) w:=by
 obtain⟨E,F,I,t,L,_⟩:=(g.af v).fs;by_cases y:0<=C/\C<a
 ·obtain⟨c,rfl⟩:∃c:Nat,C=c:=⟨C.toNat,by omega⟩
  have u:c<a:=by omega
  refine(aiu t z g.rel.nice u).mono fun o w r=>⟨_,_,r.1,Ag g v r.2 fun B _ _ _ _ x=> ?_⟩
  refine(ac2 (x.cx.xW (g.rel.own t u)).toShown (t.V7 u g.rel.nice)).mono fun o M r=>⟨?_,r.2⟩
  rw[r.1];have D:oG (cn (l.s.ops c)) 4 (0,0)=eo (cn (l.s.ops c)) 4 (0,0):=(o6.of (t.ok.kd c u)).text (t.nice g.rel.nice u) 4 (0,0);rw[<-D];rfl
 ·exact(aiT t.m.jO C y).mono fun o w r=>⟨_,_,r.1,Ag g v r.2 fun B _ _ _ _ x=>ac1 x.cx.room C y⟩
theorem alm(o:gX m i e h d j k f n a q l)(E:J m b)(C u w:Int):
  O 29 #[Z h,A C,.agg #[A u,A w]] b fun g F=>∃v r,∃p:List PId,g=.returned (.tuple #[v,A r])/\gu b.heap.size F v p/\Js m b i e h d j k f n a q l 104 #[Z d,A C,.agg #[A u,A w]] (fun g _ M=>∃Q,g=.returned (.tuple #[Q,A r])/\er M Q p/\p.length<=240) F:=by
 obtain⟨qD,qE,j4,N,ea,_⟩:=(o.af E).fs;by_cases R:0<=C/\C<a
 ·obtain⟨c,rfl⟩:∃c:Nat,C=c:=⟨C.toNat,by omega⟩
  have U:c<a:=by omega
  refine(ah3 N U u w).mono fun g F t=> ?_
  have W:=fun B e L I D (y:da B d e L I a l.S D)=>acZ (y.cx.xW (o.rel.own N U)).toShown u w
  obtain⟨X,⟨r,x,rfl⟩|⟨v,p,x,_,rfl,ae⟩⟩:=t
  ·refine⟨_,_,[],rfl,ao9 _ _ _ _,Ag o E X fun B e L I D y=>(W B e L I D y).mono fun g M t=> ?_⟩
   obtain⟨P,⟨m2,_,z,rfl⟩|⟨v2,cy,z,Y,rfl,jJ⟩⟩:=t
   ·rw[show iM (cn (l.s.ops c)) (u,w)=_ from z]at x;cases x
    exact⟨⟨_,rfl,ao9 _ _ _ _,by simp⟩,P⟩
   ·rw[show iM (cn (l.s.ops c)) (u,w)=_ from z]at x;cases x
  ·refine⟨_,_,p,rfl,ae,Ag o E X fun B e L I D y=>(W B e L I D y).mono fun g M t=> ?_⟩
   obtain⟨P,⟨m2,_,z,rfl⟩|⟨v2,cy,z,Y,rfl,jJ⟩⟩:=t
   ·rw[show iM (cn (l.s.ops c)) (u,w)=_ from z]at x;cases x
   ·rw[show iM (cn (l.s.ops c)) (u,w)=_ from z]at x;cases x
    exact⟨⟨_,rfl,gC jJ (aoR _),Y⟩,P⟩
 ·exact(aiR N.m.jO C R u w).mono fun g F t=>⟨_,_,[],t.1,ao9 _ _ _ _,Ag o E t.2 fun B _ _ _ _ y=>(ac0 y.cx.room C u w R).mono fun g M t=>⟨⟨_,t.1,ao9 _ _ _ _,by simp⟩,t.2⟩⟩
theorem aln(t:gX m i e h d j k f n a q l)(P:J m b)(C z B:Int)(x:ByteArray)(dO:x.size<=maxLen):
  O 24 #[Z h,A C,.agg #[A z,A B],.string x] b fun r D=>∃v g,∃p:List dR,r=.returned (.tuple #[v,A g])/\nL b.heap.size D v p/\Js m b i e h d j k f n a q l 107 #[Z d,A C,.agg #[A z,A B],.string x] (fun r _ Q=>∃v',r=.returned (.tuple #[v',A g])/\B1 Q v' p/\p.length<=240) D:=by
 obtain⟨qD,qE,j4,M,ea,_⟩:=(t.af P).fs;by_cases hc:0<=C/\C<a
 ·obtain⟨c,rfl⟩:∃c:Nat,C=c:=⟨C.toNat,by omega⟩
  have R:c<a:=by omega
  refine(akO M R z B x dO).mono fun r D y=> ?_
  have aI:=fun N e L I U (E:da N d e L I a l.S U)=>ac4 (E.cx.xW (t.rel.own M R)).toShown z B x dO
  obtain⟨ab,y⟩:=y;obtain⟨g,p,W,w⟩:∃g p,(∃v,r=.returned (.tuple #[v,A g])/\nL b.heap.size D v p)/\((uD (cn (l.s.ops c)) (z,B) x=.error g/\p=[])\/(uD (cn (l.s.ops c)) (z,B) x=.ok p/\g=0)):=by
   rcases y with⟨g,X,F⟩|⟨o,u,aB,ae,bo,X,F,ag,au,hu⟩
   ·exact⟨g,[],⟨_,F,ao9 _ _ _ _⟩,.inl ⟨alg X,rfl⟩⟩
   ·exact⟨0,_,⟨u,F,hu⟩,.inr ⟨M.alj R ae bo X ag au,rfl⟩⟩
  obtain⟨v,F,W⟩:=W;refine⟨v,g,p,F,W,Ag t P ab fun N e L I U E=>(aI N e L I U E).mono fun r Q y=> ?_⟩;obtain⟨lg,⟨m2,_,Y,rfl⟩|⟨v2,cy,Y,hle,rfl,jJ⟩⟩:=y
  ·rw[show uD (cn (l.s.ops c)) (z,B) x=_ from Y]at w
   rcases w with⟨w,rfl⟩|⟨w,_⟩
   ·cases w
    exact⟨⟨_,rfl,ao9 _ _ _ _,by simp⟩,lg⟩
   ·cases w
  ·rw[show uD (cn (l.s.ops c)) (z,B) x=_ from Y]at w
   rcases w with⟨w,_⟩|⟨w,rfl⟩
   ·cases w
   ·cases w
    exact⟨⟨_,rfl,gC jJ (aoR _),hle⟩,lg⟩
 ·exact(aiS M.m.jO C hc z B x).mono fun r D y=>⟨_,_,[],y.1,ao9 _ _ _ _,Ag t P y.2 fun N _ _ _ _ E=>(ac5 E.cx.room C z B x hc).mono fun r Q y=>⟨⟨_,y.1,ao9 _ _ _ _,by simp⟩,y.2⟩⟩
theorem alo(o:gX m i e d h j k f n a q l)(x:J m b)(C:Int):
  O 25 #[Z d,A C] b fun g w=>∃v r,∃p:List Int,g=.returned (.tuple #[v,A r])/\qp b.heap.size w v p/\Js m b i e d h j k f n a q l 110 #[Z h,A C] (fun g _ y=>∃E,g=.returned (.tuple #[E,A r])/\qp 0 y E p/\p.length<=240) w:=by
 obtain⟨U,W,X,z,Y,_⟩:=(o.af x).fs;by_cases F:0<=C/\C<a
 ·obtain⟨c,rfl⟩:∃c:Nat,C=c:=⟨C.toNat,by omega⟩
  have B:c<a:=by omega
  have hN:=z.m.hN;refine(ahp z.m c B).mono fun g w t=> ?_
  obtain⟨u,rfl,M,N⟩:=t;refine⟨u,0,_,rfl,M,Ag o x N fun P e L I k0 D=>(ajf D.cx.room c B).mono fun g y t=> ?_⟩;obtain⟨u2,rfl,Q,R⟩:=t;refine⟨⟨u2,rfl,?_,by rw[ug];omega⟩,R⟩;exact ali (gC Q (aoR _)) fun s S=>o.rel.rel.has c B s S
 ·exact(aiU z.m.jO C F).mono fun g w t=>⟨_,_,[],t.1,ao9 _ _ _ _,Ag o x t.2 fun P _ _ _ _ D=>(aje D.cx.room C F).mono fun g y t=>⟨⟨_,t.1,ao9 _ _ _ _,by simp⟩,by rw[t.2];exact aoQ _ _⟩⟩
theorem alp{w:World}{m:Nat}{cW bX cV bQ:Value}{d:List Nat}{a:Option Addr}{n c:Nat}(az:w.heap[m]?=some (.cells #[cW,bX,cV,bQ] 84 (0,0)))(nx:d.length<2000000000000)(hn:n<2000000000000)(au:w.ownsRow 0 140 1 cV d.length (d.flatMap kZ))(hl:Shape 57 3 w (.slice a n c) n):
  O 109 #[.pointer (some ⟨m,1,none⟩),.slice a n c] w fun e w'=>e=.returned (.tuple #[])/\Ac 57 53 140 3 #[.int .i64 (-7070-(d.length:Int)),.int .i64 0,.int .i64 0] w m (.slice a n c) cV d n (fun x=> #[cW,bX,x,bQ]) w':=by
 obtain⟨D,ac,rfl,nx,wI,qC⟩:=bp au;have y1:w.cell? ⟨m,2,none⟩=some (.slice D d.length ac):=by simp[World.cell?,az]
 have Br:IntKind.i64.wrap (-7070-(d.length:Int))= -7070-(d.length:Int):=apO _ (by omega);have S:=aa hl;have tl:=aa hl;have hv:=aa az;have bR:=aa au;clear az au qC;have tw:=aa (show ∀q,w.heap.size<=q->¬((Value.slice a n c).ownBlock=some q) from fun q f C=>by have :=hl.lt q C;omega);have E:=aa (bL w (.cells #[.int .i64 (-7070-(d.length:Int)),.int .i64 0,.int .i64 0] 57));clear hl;go_enter func109,ntmps109;go_wp2_with fail
 go_cut [5] (fun p wc=>∃l,p=.slice (some ⟨l,0,none⟩) 4 4/\∃U,Nm 57 53 3 #[.int .i64 (-7070-(d.length:Int)),.int .i64 0,.int .i64 0] w (.slice a n c) n l U wc)
 case first =>
  go_region_held3 (fun W=>W.cell? ⟨w.heap.size,0,none⟩=some (.int .i64 (-7070-(d.length:Int)))/\W.cell? ⟨w.heap.size,1,none⟩=some (.int .i64 0)/\W.cell? ⟨w.heap.size,2,none⟩=some (.int .i64 0)) (first |exact Eb (t:=57) (by(repeat(first |exact F.o|exact P.o|exact Q.o|exact E.o|exact mY (by first |rfl|(simp;done)|(simp;omega))|refine(ec (by first |omega|(simp;done)|(simp;omega))).trans ?_|refine(I.o _ (by first |omega|(simp;done)|(simp;omega)) (by first |omega|(simp;done)|(simp;omega))).trans ?_|refine(L.o _ (by first |omega|(simp;done)|(simp;omega)) (by first |omega|(simp;done)|(simp;omega))).trans ?_|refine(M.o _ (by first |omega|(simp;done)|(simp;omega)) (by first |omega|(simp;done)|(simp;omega))).trans ?_))))
   (first
    |(refine Gl 3 24 53 57 (.agg #[.int .i64 0,.int .i64 0,.int .i64 0]) (by kernel_rfl) underlying53 rfl (by omega) (by rfl) (.tmp 16) (.tmp 18) (by rfl) (.slice a n c) n (by rfl) (S.o.same (b5.s (by(repeat(first |exact X.o|exact Y.o|exact b5.refl _ _ _|refine b5.alloc ?_ _|refine b5.drew ?_)):b5 57 (.slice a n c) w _))) _ 1 1 (by omega) (by rfl) (cs:= #[.int .i64 (-7070-(d.length:Int)),.int .i64 0,.int .i64 0]) (by(repeat(first |exact F.o|exact P.o|exact Q.o|exact E.o|exact mY (by first |rfl|(simp;done)|(simp;omega))|refine(ec (by first |omega|(simp;done)|(simp;omega))).trans ?_|refine(I.o _ (by first |omega|(simp;done)|(simp;omega)) (by first |omega|(simp;done)|(simp;omega))).trans ?_|refine(L.o _ (by first |omega|(simp;done)|(simp;omega)) (by first |omega|(simp;done)|(simp;omega))).trans ?_|refine(M.o _ (by first |omega|(simp;done)|(simp;omega)) (by first |omega|(simp;done)|(simp;omega))).trans ?_))) (by rfl) (by simp[Value.oneCell']) (by omega) (by unfold maxLen;omega) ?_;intro b1 a6 w1 hD e7 aq;have hz1:=e7.t.size;(try simp at hz1);have iG:=aa hD;have Y:=aa (b5.trans (by(repeat(first |exact X.o|exact Y.o|exact b5.refl _ _ _|refine b5.alloc ?_ _|refine b5.drew ?_)):b5 57 (.slice a n c) w _) e7);have M:=aa (fun q f (gF:w.heap.size<=q)=>e7.t.other q f (tw.o q gF));have Q:=aa (show w1.heap[w.heap.size]?=some (.cells #[.int .i64 (-7070-(d.length:Int)),.int .i64 0,.int .i64 0] 57 (0,0)) from(M.o _ (by first |omega|(simp;done)|(simp;omega)) (aoP _)).trans (by(repeat(first |exact F.o|exact P.o|exact Q.o|exact E.o|exact mY (by first |rfl|(simp;done)|(simp;omega))|refine(ec (by first |omega|(simp;done)|(simp;omega))).trans ?_|refine(I.o _ (by first |omega|(simp;done)|(simp;omega)) (by first |omega|(simp;done)|(simp;omega))).trans ?_|refine(L.o _ (by first |omega|(simp;done)|(simp;omega)) (by first |omega|(simp;done)|(simp;omega))).trans ?_|refine(M.o _ (by first |omega|(simp;done)|(simp;omega)) (by first |omega|(simp;done)|(simp;omega))).trans ?_))));have eS:(Value.slice a n c).ownBlock=some b1\/w.heap.size<b1:=(aq.imp id (fun C=>by(try simp at C);omega));clear hD e7 aq)
    |(refine Gl 3 24 53 57 (.agg #[.int .i64 0,.int .i64 0,.int .i64 0]) (by kernel_rfl) underlying53 rfl (by omega) (by rfl) (.tmp 20) (.tmp 23) (by rfl) (.slice a n c) n (by rfl) (S.o.same (b5.s (by(repeat(first |exact X.o|exact Y.o|exact b5.refl _ _ _|refine b5.alloc ?_ _|refine b5.drew ?_)):b5 57 (.slice a n c) w _))) _ 2 2 (by omega) (by rfl) (cs:= #[.int .i64 (-7070-(d.length:Int)),.int .i64 0,.int .i64 0,.int .i64 (-7070-(d.length:Int)),.int .i64 0,.int .i64 0]) (by(repeat(first |exact F.o|exact P.o|exact Q.o|exact E.o|exact mY (by first |rfl|(simp;done)|(simp;omega))|refine(ec (by first |omega|(simp;done)|(simp;omega))).trans ?_|refine(I.o _ (by first |omega|(simp;done)|(simp;omega)) (by first |omega|(simp;done)|(simp;omega))).trans ?_|refine(L.o _ (by first |omega|(simp;done)|(simp;omega)) (by first |omega|(simp;done)|(simp;omega))).trans ?_|refine(M.o _ (by first |omega|(simp;done)|(simp;omega)) (by first |omega|(simp;done)|(simp;omega))).trans ?_))) (by rfl) (by simp[Value.oneCell']) (by omega) (by unfold maxLen;omega) ?_;intro a2 bd w2 eu gh aU;have hz2:=gh.t.size;(try simp at hz2);replace iG:=aa (iG.o.same ((b5.s (by(repeat(first |exact b5.refl _ _ _|refine b5.alloc ?_ _|refine b5.drew ?_)):b5 57 (.slice a n c) w1 _)).trans gh.s));have my:=aa eu;have X:=aa (b5.trans (by(repeat(first |exact X.o|exact Y.o|exact b5.refl _ _ _|refine b5.alloc ?_ _|refine b5.drew ?_)):b5 57 (.slice a n c) w _) gh);have L:=aa (fun q f (gF:w.heap.size<=q)=>gh.t.other q f (tw.o q gF));have P:=aa (show w2.heap[w.heap.size]?=some (.cells #[.int .i64 (-7070-(d.length:Int)),.int .i64 0,.int .i64 0] 57 (0,0)) from(L.o _ (by first |omega|(simp;done)|(simp;omega)) (aoP _)).trans (by(repeat(first |exact F.o|exact P.o|exact Q.o|exact E.o|exact mY (by first |rfl|(simp;done)|(simp;omega))|refine(ec (by first |omega|(simp;done)|(simp;omega))).trans ?_|refine(I.o _ (by first |omega|(simp;done)|(simp;omega)) (by first |omega|(simp;done)|(simp;omega))).trans ?_|refine(L.o _ (by first |omega|(simp;done)|(simp;omega)) (by first |omega|(simp;done)|(simp;omega))).trans ?_|refine(M.o _ (by first |omega|(simp;done)|(simp;omega)) (by first |omega|(simp;done)|(simp;omega))).trans ?_))));have iY:(Value.slice a n c).ownBlock=some a2\/w.heap.size<a2:=(aU.imp id (fun C=>by(try simp at C);omega));clear eu gh aU)
    |(refine Gl 3 24 53 57 (.agg #[.int .i64 0,.int .i64 0,.int .i64 0]) (by kernel_rfl) underlying53 rfl (by omega) (by rfl) (.tmp 25) (.tmp 29) (by rfl) (.slice a n c) n (by rfl) (S.o.same (b5.s (by(repeat(first |exact X.o|exact Y.o|exact b5.refl _ _ _|refine b5.alloc ?_ _|refine b5.drew ?_)):b5 57 (.slice a n c) w _))) _ 3 3 (by omega) (by rfl) (cs:= #[.int .i64 (-7070-(d.length:Int)),.int .i64 0,.int .i64 0,.int .i64 (-7070-(d.length:Int)),.int .i64 0,.int .i64 0,.int .i64 (-7070-(d.length:Int)),.int .i64 0,.int .i64 0]) (by(repeat(first |exact F.o|exact P.o|exact Q.o|exact E.o|exact mY (by first |rfl|(simp;done)|(simp;omega))|refine(ec (by first |omega|(simp;done)|(simp;omega))).trans ?_|refine(I.o _ (by first |omega|(simp;done)|(simp;omega)) (by first |omega|(simp;done)|(simp;omega))).trans ?_|refine(L.o _ (by first |omega|(simp;done)|(simp;omega)) (by first |omega|(simp;done)|(simp;omega))).trans ?_|refine(M.o _ (by first |omega|(simp;done)|(simp;omega)) (by first |omega|(simp;done)|(simp;omega))).trans ?_))) (by rfl) (by simp[Value.oneCell']) (by omega) (by unfold maxLen;omega) ?_;intro a3 bV w3 lY fk a8;have mM:=fk.t.size;(try simp at mM);replace iG:=aa (iG.o.same ((b5.s (by(repeat(first |exact b5.refl _ _ _|refine b5.alloc ?_ _|refine b5.drew ?_)):b5 57 (.slice a n c) w2 _)).trans fk.s));replace my:=aa (my.o.same ((b5.s (by(repeat(first |exact b5.refl _ _ _|refine b5.alloc ?_ _|refine b5.drew ?_)):b5 57 (.slice a n c) w2 _)).trans fk.s));have e5:=aa lY;have ht:=aa (b5.trans (by(repeat(first |exact X.o|exact Y.o|exact b5.refl _ _ _|refine b5.alloc ?_ _|refine b5.drew ?_)):b5 57 (.slice a n c) w _) fk);have I:=aa (fun q f (gF:w.heap.size<=q)=>fk.t.other q f (tw.o q gF));have F:=aa (show w3.heap[w.heap.size]?=some (.cells #[.int .i64 (-7070-(d.length:Int)),.int .i64 0,.int .i64 0] 57 (0,0)) from(I.o _ (by first |omega|(simp;done)|(simp;omega)) (aoP _)).trans (by(repeat(first |exact F.o|exact P.o|exact Q.o|exact E.o|exact mY (by first |rfl|(simp;done)|(simp;omega))|refine(ec (by first |omega|(simp;done)|(simp;omega))).trans ?_|refine(I.o _ (by first |omega|(simp;done)|(simp;omega)) (by first |omega|(simp;done)|(simp;omega))).trans ?_|refine(L.o _ (by first |omega|(simp;done)|(simp;omega)) (by first |omega|(simp;done)|(simp;omega))).trans ?_|refine(M.o _ (by first |omega|(simp;done)|(simp;omega)) (by first |omega|(simp;done)|(simp;omega))).trans ?_))));have hK:(Value.slice a n c).ownBlock=some a3\/w.heap.size<a3:=(a8.imp id (fun C=>by(try simp at C);omega));clear lY fk a8))
  all_goals(go_wp2_with fail;go_meet)
  all_goals exact⟨_,rfl,Sz (bL w3 _) ((ec (by omega)).trans F.o) (S.o.same (ht.o.alloc _).s) (iG.o.same ((b5.refl 57 (.slice a n c) w3).alloc _).s) (my.o.same ((b5.refl 57 (.slice a n c) w3).alloc _).s) (e5.o.same ((b5.refl 57 (.slice a n c) w3).alloc _).s) eS iY hK (ht.o.alloc _).t (by omega)⟩
 case rest=>
  obtain⟨l,rfl,U,vc⟩:=hcut;have yk:=aa S.o.lt;clear E tw S;go_wp2;go_loopw [6] (fun i wr=>∃k:Nat,k<=4/\i=.int .i64 k/\vy 57 53 3 #[.int .i64 (-7070-(d.length:Int)),.int .i64 0,.int .i64 0] w (.slice a n c) n l U k 0 wr) (fun i _=>4-(intOf i).toNat)
  case atStart=>exact⟨0,by omega,rfl,vc,fun lk h=>absurd h (ap5 _),j3.zero _ _ _ _⟩
  case round=>
   obtain⟨k,hk,rfl,mT⟩:=hrel;obtain⟨v,rZ⟩:∃v,v=wr:=⟨_,rfl⟩;subst rZ;by_cases aE:k<4
   ·obtain⟨Jk,Ef,hu,hX⟩:=mT.gg.form aE
    have pA:=aa hX;clear hX;have Jl:=aa mT;clear mT vc;have h5:(0:Int)<=(k:Int):=ao0 _;have ql:(k:Int)<4:=by omega
    go_wp2;go_loopw [7] (fun i hd=>∃j:Nat,j<=n+k/\i=.int .i64 j/\vy 57 53 3 #[.int .i64 (-7070-(d.length:Int)),.int .i64 0,.int .i64 0] w (.slice a n c) n l U k j hd) (fun i _=>n+k-(intOf i).toNat)
    case atStart=>exact⟨0,aoR _,rfl,Jl.o⟩
    case round=>
     obtain⟨j,ar,rfl,f⟩:=hrel;have eJ:=f.gg.cell aE;rw[hu]at eJ;by_cases ix:j<n+k
     ·obtain⟨g,rfl⟩:=pA.o j ix
      have R:=f.gg.s k aE;rw[hu]at R;obtain⟨u0,t0⟩:=R.cell (q:=0) ix (by omega);obtain⟨u1,t1⟩:=R.cell (q:=1) ix (by omega);obtain⟨u2,t2⟩:=R.cell (q:=2) ix (by omega);have an2:=R.Ck;obtain⟨z0,z1,z2⟩:=Eb f.gg.z;have Aa:w.heap.size≠g:=fun y=>by
       rcases f.gg.b k aE g (by rw[hu];rfl) with h1|h1
       ·have :=yk.o _ h1;omega
       ·omega
      have j8:=aa f;clear f;simp only[apL]at t0;have Ap:(0:Int)<=(j:Int):=ao0 _;have r6:(j:Int)<((n+k:Nat):Int):=by omega
      have mv:l≠g:=fun y=>by
       subst y;obtain⟨N,r⟩:=R.type rfl;exact absurd (bz j8.o.gg.row r) (by decide)
      clear R;go_wp2_with fail
      go_region_held3 (fun W=>W.cell? ⟨l,k,none⟩=some (.slice (some ⟨g,0,none⟩) (n+k) Ef)/\W.cell? ⟨w.heap.size,0,none⟩=some (.int .i64 (-7070-(d.length:Int)))/\W.cell? ⟨w.heap.size,1,none⟩=some (.int .i64 0)/\W.cell? ⟨w.heap.size,2,none⟩=some (.int .i64 0)) (first |exact⟨eJ,z0,z1,z2⟩|exact⟨(apW (Ab [.int .i64 (-7070-(d.length:Int)),.int .i64 0,.int .i64 0] (j*3) wr l mv)).trans eJ,(apW (Ab [.int .i64 (-7070-(d.length:Int)),.int .i64 0,.int .i64 0] (j*3) wr w.heap.size Aa)).trans z0,(apW (Ab [.int .i64 (-7070-(d.length:Int)),.int .i64 0,.int .i64 0] (j*3) wr w.heap.size Aa)).trans z1,(apW (Ab [.int .i64 (-7070-(d.length:Int)),.int .i64 0,.int .i64 0] (j*3) wr w.heap.size Aa)).trans z2⟩) (fail)
      all_goals go_wp2
      all_goals go_roundw
      case rel=>exact⟨j+1,by omega,by go_num,(j8.o.next yk.o (by decide) rfl aE hu ix).drew⟩
      case measure=>simp[intOf];omega
     ·have q4:j=n+k:=by omega
      subst q4;go_wp2;go_roundw
      case rel=>
       refine⟨k+1,by omega,by go_num,f.gg,fun lk eL=> ?_,j3.zero _ _ _ _⟩;by_cases wa:lk=k
       ·subst wa;exact f.part
       ·exact f.full lk (by omega)
      case measure=>simp[intOf];omega
   ·have ql:k=4:=by omega
    subst ql;have B:=aa mT.gg;have ot:=aa (show ∀i,i<4->j3 3 #[.int .i64 (-7070-(d.length:Int)),.int .i64 0,.int .i64 0].toList v (U i) (n+i) from mT.full);clear mT;have xg:¬((Value.slice a n c).ownBlock=some m):=fun C=>by
     obtain⟨N,r⟩:=tl.o.type C;exact absurd (bz r hv.o) (by decide)
    have dM:=aa ((B.o.t.other m (aM hv.o) xg).trans hv.o);have D8:∀q,(Value.slice D d.length ac).ownBlock=some q->¬((Value.slice a n c).ownBlock=some q):=fun q h1 h2=>by
     obtain⟨N,r⟩:=bt bR.o h1;obtain⟨Jm,fZ⟩:=tl.o.type h2;exact absurd (bz r fZ) (by decide)
    have h8:=aa (b4 bR.o (w':=v) fun q f=>B.o.t.other q (aoT bR.o q f).2 (D8 q f));have an3:v.cell? ⟨m,2,none⟩=some (.slice D d.length ac):=by simp[World.cell?,dM.o]
    have cP:=aM dM.o;have lM:=aa (show(v.alloc (.cells #[.slice (some ⟨l,0,none⟩) 4 4] 140)).ownsRow 0 140 1 (.slice D d.length ac) d.length (d.flatMap kZ) from c5 h8.o (by go_grown));have n9:=aa (show ∀j u,(kZ l)[j]?=some u->(v.alloc (.cells #[.slice (some ⟨l,0,none⟩) 4 4] 140)).cell? ⟨v.heap.size,j,none⟩=some u from one_cell (by simp[go_sem]));have pT:=aa (show some m≠(Value.slice D d.length ac).ownBlock from fun y=>by
     obtain⟨N,r⟩:=bt h8.o y.symm;exact absurd (bz r dM.o) (by decide))
    go_wp2_with (first
     |(at_builtin;refine zd kZ 1 24 79 140 (.slice none 0 0) (by kernel_rfl) underlying79 rfl (by omega) (fun _=>rfl) rfl (.tmp 58) (.tmp 60) rfl 0 (.slice D d.length ac) d rfl lM.o v.heap.size 1 l rfl n9.o (by simp[kZ,Value.oneCell']) (by omega) (by unfold maxLen;omega) (aoR _) ?_;intro v4 w4 hj dB gp;have eE:=aa hj;have kF:=aa dB;have jw:=aa gp;have gn:=aa ((dB.block m (by simp;omega) pT.o).trans ((ec (by omega)).trans dM.o));clear hj dB gp;obtain⟨a4,kc,rfl,q0,ta,ub⟩:=bp eE.o;clear q0 ta ub;have bd:w4.cell? ⟨m,2,none⟩=some (.slice D d.length ac):=(by simp[World.cell?,gn.o]);have vH:=cS gn.o 2))
    have tb:(Value.slice a4 (d.length+1) kc).ownBlock≠some m:=fun y=>by
     obtain⟨N,r⟩:=bt eE.o y;exact absurd (bz r gn.o) (by decide)
    have ky:∀(q:Nat) (N:Array Value) (t:TypeId),v.heap[q]?=some (.cells N t (0,0))->t≠140->t≠84->(w4.setCell ⟨m,2,none⟩ (.slice a4 (d.length+1) kc)).heap[q]?=v.heap[q]?:=fun q N t f h1 h2=>by
     have Jn:q≠m:=fun y=>by subst y;exact h2 (bz f dM.o)
     have DJ:some q≠(Value.slice D d.length ac).ownBlock:=fun y=>by
      obtain⟨Jm,r⟩:=bt h8.o y.symm;exact h1 (bz f r)
     have Bi:=aM f;exact(dI Jn).trans ((kF.o.block q (by simp;omega) DJ).trans (ec (by omega)))
    go_end0
    refine⟨rfl,.slice a4 (d.length+1) kc,l,U,Oq gn.o,iW eE.o tb _,?_,?_,?_,B.o.gl,B.o.b⟩
    ·exact(B.o.t.mono fun q f=>.inr (.inl f)).trans ((aP.cQ ((aoQ _ v).alloc (aoP _) _)).trans ((aP.rN kF.o fun q f=>.inr (.inr f)).trans (aP.lf _ (.inl rfl))))
    ·exact jw.o.mono (aoS B.o.t.size (by simp))
    ·refine qB.af ⟨B.o.row,B.o.s,ot.o⟩ (ky l _ 53 B.o.row (by decide) (by decide)) fun i hi g ah=> ?_
     obtain⟨N,r⟩:=(B.o.s i hi).type ah;exact ky g _ 57 r (by decide) (by decide)
end
section
open Go.RowKit Tryz
attribute [local go_sem ↓] Go.wp_at_zero Go.wp_at_succ
variable {a e f:Nat}{b:Nat->Prop}{d:World}
theorem alq{w F}(h:ki w e F f){gy:Nat}(o:jD)(E:o.kind=9)(I:Pow w):
  O 69 #[Z gy,Z e,.agg #[A o.kind,A o.r,A o.c,A o.d,A o.i1,A o.i2,A o.made,.string o.key,A o.a,A o.b,.bool o.yes]] w fun g p=>g=.returned (.bool true)/\∃i,ki p e i f/\c0 F i w p/\∀k,i k->F k:=by
 obtain⟨x,r,L,told,M,Q,N,R,P,S,h⟩:=h;rw[E];have q:=aa ((aoQ w.heap.size w).alloc (aoP _) (.cells #[A 9,A o.r,A o.c,A o.d,A o.i1,A o.i2,A o.made,.string o.key,A o.a,A o.b,.bool o.yes] 87));have l:=aa (bL w (.cells #[A 9,A o.r,A o.c,A o.d,A o.i1,A o.i2,A o.made,.string o.key,A o.a,A o.b,.bool o.yes] 87));have U:=aa (bj h.blk q.o);have X:=aa (fun W (t:J w W)=>alk h t (I.af t) o.c);have Y:=aa (show ∀k,w.heap.size<=k->¬F k from fun k hk hF=>by have :=h.lt k hF;omega);have cP:=h.lt _ h.fr;have jE:=aa h.blk;clear h;go_enter func69,ntmps69;go_wp2_with fail
 go_region_held3 (fun W=>W.cell? (H e)=some (Z x)/\W.cell? (K e 1)=some (Z r)/\W.cell? (V w 0)=some (A 9)/\W.cell? (V w 2)=some (A o.c)/\W.cell? (V w 4)=some (A o.i1)/\W.cell? (V w 5)=some (A o.i2)/\W.cell? (V w 7)=some (.string o.key)/\W.cell? (V w 8)=some (A o.a)/\W.cell? (V w 9)=some (A o.b)/\W.cell? (V w 10)=some (.bool o.yes)) (first |exact ep U.o l.o|exact ep u.o j.o)
  (first |(go_at_call 28;refine(X.o _ q.o.drew).mono ?_;rintro g w1 ⟨s,m,rfl,v,y,hD,z⟩;have u:=aa (v.trans jE.o);have j:=aa ((y w.heap.size (aM l.o) (Y.o _ (aoP _))).trans l.o);have fI:=aa z;clear v y z))
 go_wp2_with fail
 go_region_held3 (fun W=>W.cell? (H e)=some (Z x)/\W.cell? (K e 1)=some (Z r)/\W.cell? (V w 0)=some (A 9)/\W.cell? (V w 2)=some (A o.c)/\W.cell? (V w 4)=some (A o.i1)/\W.cell? (V w 5)=some (A o.i2)/\W.cell? (V w 7)=some (.string o.key)/\W.cell? (V w 8)=some (A o.a)/\W.cell? (V w 9)=some (A o.b)/\W.cell? (V w 10)=some (.bool o.yes)) (first |exact ep u.o j.o|exact ep dD.o cz.o)
  (first |(go_at_call 103;refine(fI.o _ ((aoQ _ w1).drew)).mono ?_;rintro g w2 ⟨rfl,⟨i,n,B,C⟩,D⟩;have dD:=aa n.blk;have cz:=aa ((D w.heap.size (aoP _) (aM j.o)).trans j.o);have iQ:=aa n;have iR:=aa B;have my:=aa C;clear n B D C))
 go_wp2;go_ret
 exact⟨rfl,i,⟨x,r,L,told,M,Q,N,R,P,S,iQ.o⟩,iR.o,my.o⟩
theorem alr{w F Q}(h:ki w f F Q)(o:jD)(eH:o.kind=10){R t S U:Value}{j:List Nat}(B:w.heap[e]?=some (.cells #[R,t,S,U] 84 (0,0)))(X:¬F e)(nx:j.length<2000000000000)(Y:w.ownsRow 0 138 1 t j.length (j.flatMap kZ))(B3:∀k,(t).ownBlock=some k->¬F k):
  O 69 #[Z e,Z f,.agg #[A o.kind,A o.r,A o.c,A o.d,A o.i1,A o.i2,A o.made,.string o.key,A o.a,A o.b,.bool o.yes]] w fun g w'=>g=.returned (.bool true)/\∃wm v n p,ki wm f p Q/\c0 F p w wm/\(∀k,p k->F k)/\(∀k,v.ownBlock=some k->w.heap.size<=k)/\wm.heap[e]?=w.heap[e]?/\Ac 36 65 138 2 #[A (-7070),A j.length] wm e v t j n (fun x=> #[R,x,S,U]) w':=by
 obtain⟨x,r,bC,told,cA,cC,N,sp,P,jU,h⟩:=h;rw[eH];have aK:=aa ((aoQ w.heap.size w).alloc (aoP _) (.cells #[A 10,A o.r,A o.c,A o.d,A o.i1,A o.i2,A o.made,.string o.key,A o.a,A o.b,.bool o.yes] 87));have C:=aa (bL w (.cells #[A 10,A o.r,A o.c,A o.d,A o.i1,A o.i2,A o.made,.string o.key,A o.a,A o.b,.bool o.yes] 87));have iB:=aa (bj h.blk aK.o);have dj:=aa (fun W (ab:J w W)=>alm h ab o.c o.i1 o.i2);have fB:=aa (show ∀k,w.heap.size<=k->¬F k from fun k hk hF=>by have :=h.lt k hF;omega);have cP:=h.lt _ h.fr;have jE:=aa h.blk;have hv:=aa B;have Jt:=aa X;have bR:=aa Y;have rE:=aa B3;have uo:=aM B;clear h B X Y B3;go_enter func69,ntmps69;go_wp2_with fail
 go_region_held3 (fun W=>W.cell? (H f)=some (Z x)/\W.cell? (K f 1)=some (Z r)/\W.cell? (V w 0)=some (A 10)/\W.cell? (V w 2)=some (A o.c)/\W.cell? (V w 4)=some (A o.i1)/\W.cell? (V w 5)=some (A o.i2)/\W.cell? (V w 7)=some (.string o.key)/\W.cell? (V w 8)=some (A o.a)/\W.cell? (V w 9)=some (A o.b)/\W.cell? (V w 10)=some (.bool o.yes)) (first |exact ep iB.o C.o|exact ep dE.o u.o)
  (first |(go_at_call 29;refine(dj.o _ aK.o.drew).mono ?_;rintro g w1 ⟨v,m,l,rfl,jW,dd,c3,hD,e7⟩;have dE:=aa (dd.trans jE.o);have u:=aa ((c3 w.heap.size (aM C.o) (fB.o _ (aoP _))).trans C.o);have fI:=aa e7;have y:=aa (gC jW (show w.heap.size<=_ by first |omega|(simp;done)|(simp;omega)));clear dd c3 e7 jW;obtain⟨dp,de,rfl,vS,rn,sv⟩:=bp y.o;clear vS rn sv))
 go_wp2_with fail
 go_region_held3 (fun W=>W.cell? (H f)=some (Z x)/\W.cell? (K f 1)=some (Z r)/\W.cell? (V w 0)=some (A 10)/\W.cell? (V w 2)=some (A o.c)/\W.cell? (V w 4)=some (A o.i1)/\W.cell? (V w 5)=some (A o.i2)/\W.cell? (V w 7)=some (.string o.key)/\W.cell? (V w 8)=some (A o.a)/\W.cell? (V w 9)=some (A o.b)/\W.cell? (V w 10)=some (.bool o.yes)) (first |exact ep dE.o u.o|exact ep dD.o cz.o)
  (first |(go_at_call 104;refine(fI.o _ ((aoQ _ w1).drew)).mono ?_;rintro g w2 ⟨⟨v2,rfl,jR,hle⟩,⟨p,D,cF,eu⟩,E⟩;have dD:=aa D.blk;have cz:=aa ((E w.heap.size (aoP _) (aM u.o)).trans u.o);have iQ:=aa D;have I:=aa cF;have my:=aa eu;have re:=aa jR;have L:=aa (b4 y.o (fun q s=>E q (aoT y.o q s).1 (aoT y.o q s).2));clear D cF E eu jR;obtain⟨a2,bd,rfl,Ju,Jv,Jw⟩:=bp re.o;clear Ju Jv Jw))
 have Jx:=aa (ald (gC L.o (aoR _)) re.o);have M:=aa ((I.o.other e uo Jt.o).trans hv.o);have zW:=aa (b4 bR.o fun q s=>I.o.other q (aoT bR.o q s).2 (rE.o q s));have tI:=aa (fun jf (i:J w2 jf)=>akT (bj M.o i) nx (show l.length<2000000000000 by omega) (c5 zW.o i) ⟨_,c5 (gC L.o (aoR _)) i⟩);go_wp2_with (first
  |(go_at_call 105;refine Jx.o.mono ?_;rintro g w3 ⟨rfl,i⟩;have z:=aa i;clear i)
  |(go_at_call 106;refine(tI.o w3 z.o).mono ?_;rintro g w4 ⟨rfl,gp⟩;have jw:=aa gp;clear gp))
 go_ret
 exact⟨rfl,w3,_,_,p,⟨x,r,bC,told,cA,cC,N,sp,P,jU,iQ.o.af z.o⟩,I.o.after z.o,my.o,fun k hk=>(aoT L.o k hk).1,(z.o.block e (aM M.o)).trans (M.o.trans hv.o.symm),jw.o⟩
theorem als{w F Q}(h:ki w f F Q)(o:jD)(eH:o.kind=11){R S t U:Value}{j:List Nat}(B:w.heap[e]?=some (.cells #[R,S,t,U] 84 (0,0)))(X:¬F e)(nx:j.length<2000000000000)(Y:w.ownsRow 0 140 1 t j.length (j.flatMap kZ))(B3:∀k,(t).ownBlock=some k->¬F k)(dO:o.key.size<=maxLen):
  O 69 #[Z e,Z f,.agg #[A o.kind,A o.r,A o.c,A o.d,A o.i1,A o.i2,A o.made,.string o.key,A o.a,A o.b,.bool o.yes]] w fun g w'=>g=.returned (.bool true)/\∃wm v n p,ki wm f p Q/\c0 F p w wm/\(∀k,p k->F k)/\(∀k,v.ownBlock=some k->w.heap.size<=k)/\wm.heap[e]?=w.heap[e]?/\Ac 57 53 140 3 #[A (-7070-(j.length:Int)),A 0,A 0] wm e v t j n (fun x=> #[R,S,x,U]) w':=by
 obtain⟨x,r,bC,told,cA,cC,N,sp,P,jU,h⟩:=h;rw[eH];have aK:=aa ((aoQ w.heap.size w).alloc (aoP _) (.cells #[A 11,A o.r,A o.c,A o.d,A o.i1,A o.i2,A o.made,.string o.key,A o.a,A o.b,.bool o.yes] 87));have C:=aa (bL w (.cells #[A 11,A o.r,A o.c,A o.d,A o.i1,A o.i2,A o.made,.string o.key,A o.a,A o.b,.bool o.yes] 87));have iB:=aa (bj h.blk aK.o);have dj:=aa (fun W (ab:J w W)=>aln h ab o.c o.i1 o.i2 o.key dO);have fB:=aa (show ∀k,w.heap.size<=k->¬F k from fun k hk hF=>by have :=h.lt k hF;omega);have cP:=h.lt _ h.fr;have jE:=aa h.blk;have hv:=aa B;have Jt:=aa X;have bR:=aa Y;have rE:=aa B3;have uo:=aM B;clear h B X Y B3;go_enter func69,ntmps69;go_wp2_with fail
 go_region_held3 (fun W=>W.cell? (H f)=some (Z x)/\W.cell? (K f 1)=some (Z r)/\W.cell? (V w 0)=some (A 11)/\W.cell? (V w 2)=some (A o.c)/\W.cell? (V w 4)=some (A o.i1)/\W.cell? (V w 5)=some (A o.i2)/\W.cell? (V w 7)=some (.string o.key)/\W.cell? (V w 8)=some (A o.a)/\W.cell? (V w 9)=some (A o.b)/\W.cell? (V w 10)=some (.bool o.yes)) (first |exact ep iB.o C.o|exact ep dE.o u.o)
  (first |(go_at_call 24;refine(dj.o _ aK.o.drew).mono ?_;rintro g w1 ⟨v,m,l,rfl,jW,dd,c3,hD,e7⟩;have dE:=aa (dd.trans jE.o);have u:=aa ((c3 w.heap.size (aM C.o) (fB.o _ (aoP _))).trans C.o);have fI:=aa e7;have y:=aa (gC jW (show w.heap.size<=_ by first |omega|(simp;done)|(simp;omega)));clear dd c3 e7 jW;obtain⟨dp,de,rfl,vS,rn,sv⟩:=bp y.o;clear vS rn sv))
 go_wp2_with fail
 go_region_held3 (fun W=>W.cell? (H f)=some (Z x)/\W.cell? (K f 1)=some (Z r)/\W.cell? (V w 0)=some (A 11)/\W.cell? (V w 2)=some (A o.c)/\W.cell? (V w 4)=some (A o.i1)/\W.cell? (V w 5)=some (A o.i2)/\W.cell? (V w 7)=some (.string o.key)/\W.cell? (V w 8)=some (A o.a)/\W.cell? (V w 9)=some (A o.b)/\W.cell? (V w 10)=some (.bool o.yes)) (first |exact ep dE.o u.o|exact ep dD.o cz.o)
  (first |(go_at_call 107;refine(fI.o _ ((aoQ _ w1).drew)).mono ?_;rintro g w2 ⟨⟨v2,rfl,jR,hle⟩,⟨p,D,cF,eu⟩,E⟩;have dD:=aa D.blk;have cz:=aa ((E w.heap.size (aoP _) (aM u.o)).trans u.o);have iQ:=aa D;have I:=aa cF;have my:=aa eu;have re:=aa jR;have L:=aa (b4 y.o (fun q s=>E q (aoT y.o q s).1 (aoT y.o q s).2));clear D cF E eu jR;obtain⟨a2,bd,rfl,Ju,Jv,Jw⟩:=bp re.o;clear Ju Jv Jw))
 have Jx:=aa (alf (gC L.o (aoR _)) re.o);have M:=aa ((I.o.other e uo Jt.o).trans hv.o);have zW:=aa (b4 bR.o fun q s=>I.o.other q (aoT bR.o q s).2 (rE.o q s));have tI:=aa (fun jf (i:J w2 jf)=>alp (bj M.o i) nx (show l.length<2000000000000 by omega) (c5 zW.o i) ⟨_,c5 (gC L.o (aoR _)) i⟩);go_wp2_with (first
  |(go_at_call 108;refine Jx.o.mono ?_;rintro g w3 ⟨rfl,i⟩;have z:=aa i;clear i)
  |(go_at_call 109;refine(tI.o w3 z.o).mono ?_;rintro g w4 ⟨rfl,gp⟩;have jw:=aa gp;clear gp))
 go_ret
 exact⟨rfl,w3,_,_,p,⟨x,r,bC,told,cA,cC,N,sp,P,jU,iQ.o.af z.o⟩,I.o.after z.o,my.o,fun k hk=>(aoT L.o k hk).1,(z.o.block e (aM M.o)).trans (M.o.trans hv.o.symm),jw.o⟩
end
end Go.Proofs.YtnkpogjiiohapaaGreatDoor
