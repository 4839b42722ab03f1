/- Our own text. -/
import Derived.Sort.CutIn
import Derived.Stop.RegionWithIn
import Derived.Test.YtnkpogjiiohapaaGreatDoorA19
set_option linter.unusedSimpArgs false
set_option linter.unusedVariables false
set_option maxRecDepth 1000000
set_option maxHeartbeats 4000000
namespace Go.Proofs.YtnkpogjiiohapaaGreatDoor
section
open Go.RowKit Tryz
attribute [local go_sem] Oper.semAt_some
variable {a e:World}{b d f k l:Nat}{h:List av}{i j:Nat->Prop}
def partOf (a:List PId) (k:Nat):List PId:=(a.drop (8*k)).take 8
def uh (a:List av) (part:List PId):Nat:=(a.takeWhile fun o=>decide (dX o∈part)).length
def lj (a:List av) (b:List PId) (c:List Nat):Nat×List (Nat×Nat):=c.foldl (fun s k=>(s.1+uh (a.drop s.1) (partOf b k),s.2++[(s.1,uh (a.drop s.1) (partOf b k))])) (0,[])
theorem Xz(a:List av)(b:List PId)(c:List Nat)(k:Nat):lj a b (c++[k])=((lj a b c).1+uh (a.drop (lj a b c).1) (partOf b k),(lj a b c).2++[((lj a b c).1,uh (a.drop (lj a b c).1) (partOf b k))]):=by
 unfold lj;rw[apX];rfl
theorem Qt {α:Type} (p:α->Bool):∀l:List α,(l.takeWhile p).length<=l.length
 |[]=>aoP _
 |x::l=>by
  unfold List.takeWhile;split
  ·have :=Qt p l
   simp only[apd];omega
  ·simp
theorem XA {α:Type} (p:α->Bool):∀(l:List α) (j:Nat) (a:j<(l.takeWhile p).length),p (l[j]'(aoV a (Qt p l)))=true
 |[],j,a=>by simp at a
 |x::l,j,a=>by
  cases b:p x with
  |false=>simp[List.takeWhile,b]at a
  |true=>
   match j with
   |0=>exact b
   |j+1=>
    have c:j<(l.takeWhile p).length:=by simpa[List.takeWhile,b]using a
    exact XA p l j c
theorem XB {α:Type} (p:α->Bool):∀(l:List α) (a:(l.takeWhile p).length<l.length),p l[(l.takeWhile p).length]=false
 |[],a=>by simp at a
 |x::l,a=>by
  cases b:p x with
  |false=>simp[List.takeWhile,b]
  |true=>
   have c:(l.takeWhile p).length<l.length:=by simpa[List.takeWhile,b]using a
   have :=XB p l c;simpa[List.takeWhile,b]using this
theorem Qu(a:List av)(part:List PId):uh a part<=a.length:=Qt _ _
def wv (a:List av) (b:List PId) (s:Nat×List (Nat×Nat)) (k:Nat):Nat×List (Nat×Nat):=(s.1+uh (a.drop s.1) (partOf b k),s.2++[(s.1,uh (a.drop s.1) (partOf b k))])
theorem XC(a:List av)(b:List PId):∀(c:List Nat) (s:Nat×List (Nat×Nat)),s.1<=a.length->(c.foldl (wv a b) s).1<=a.length
 |[],s,h=>h
 |k::c,s,h=>by
  refine XC a b c (wv a b s k) ?_;have :=Qu (a.drop s.1) (partOf b k);rw[apm]at this;unfold wv;simp only;omega
theorem agY(a:List av)(b:List PId)(c:List Nat):(lj a b c).1<=a.length:=XC a b c (0,[]) (aoR _)
theorem XD(b:List av)(c:List PId):∀(a:List Nat) (s:Nat×List (Nat×Nat)),(a.foldl (wv b c) s).2.length=s.2.length+a.length
 |[],s=>rfl
 |k::a,s=>by
  have :=XD b c a (wv b c s k);simp only[aqr,apd];rw[this];unfold wv;simp only[aoW,apd,apv];omega
theorem LI(b:List av)(c:List PId)(a:List Nat):(lj b c a).2.length=a.length:=by
 show(a.foldl (wv b c) (0,[])).2.length=_;rw[XD];simp
def en {α β:Type} (R:α->β->Prop):List α->List β->Prop
 |[],[]=>True
 |a::l,b::m=>R a b/\en R l m
 |_,_=>False
theorem en.snoc {α β:Type} {R:α->β->Prop} {a:α} {b:β} (h:R a b):∀{l:List α} {m:List β},en R l m->en R (l++[a]) (m++[b])
 |[],[],_=>⟨h,trivial⟩
 |[],_::_,c=>c.elim
 |_::_,[],c=>c.elim
 |_::_,_::_,c=>⟨c.1,en.snoc h c.2⟩
theorem en.len {α β:Type} {R:α->β->Prop}:∀{l:List α} {m:List β},en R l m->l.length=m.length
 |[],[],_=>rfl
 |[],_::_,h=>h.elim
 |_::_,[],h=>h.elim
 |_::_,_::_,h=>by simp[en.len h.2]
theorem en.get {α β:Type} {R:α->β->Prop}:∀{l:List α} {m:List β} (_:en R l m) (i:Nat) (a:i<l.length) (b:i<m.length),R l[i] m[i]
 |[],[],_,i,a,_=>by simp at a
 |[],_::_,h,_,_,_=>h.elim
 |_::_,[],h,_,_,_=>h.elim
 |_::_,_::_,h,0,_,_=>h.1
 |_::_,_::_,h,i+1,a,b=>en.get h.2 i (by simpa using a) (by simpa using b)
def Dn (d:Option Addr) (b:Nat×Nat) (u:Value):Prop:=∃a c,u=.iface 382 (.slice a b.2 c)/\b.2<=c/\c<=maxLen/\(0<b.2->∃p,d=some p/\a=some (K p.block (b.1*4)))
def XE (b:Option Addr) (c d:Nat) (a:Option Addr):Prop:=(b=none/\a=none)\/∃p o,b=some p/\a=some (K p.block o)/\(0<c-d->o=d*4)
structure Bo (w:World) (LJ:Nat) (S:Nat->Prop) (jf:World) (dp:Option Addr) (de:Nat) (ls:List av) (cg:List PId) (ks:List Nat) (W:World):Prop where
 row:∃v aB,W.heap[w.heap.size]?=some (.cells #[v] 165 (0,0))/\W.ownsRow w.heap.size 147 1 v (lj ls cg ks).2.length aB/\en (Dn dp) (lj ls cg ks).2 aB
 left:∃a,XE dp de (lj ls cg ks).1 a/\W.heap[LJ]?=some (.cells #[.slice a (ls.length-(lj ls cg ks).1) (de-(lj ls cg ks).1)] 202 (0,0))
 nT:ti S jf W
 FC:J w W
 Qv:ks.length<=3
theorem Qw{i:Option Nat}(k:a.grownBy e i)(l:∀r,i=some r->d<=r/\∃o:Obj,a.heap[r]?=some o/\o.isCells=false){c:Array Value}{t:TypeId}{f:Nat×Nat}(h:a.heap[b]?=some (.cells c t f)):e.heap[b]?=some (.cells c t f):=by
 rw[k.block b (aM h) (fun g=>by
  obtain⟨_,o,j,m⟩:=l b g.symm;rw[h]at j;cases j;cases m)]
 exact h
theorem Bo.grow{s x y z}{u:World}{w:Option Nat}(j:Bo e b i s x d h y z a)(F:∀k,i k->∃c t f,s.heap[k]?=some (.cells c t f))(I:e.heap.size<=l)(n:a.grownBy u w)(p:∀r,w=some r->l<=r/\∃o:Obj,a.heap[r]?=some o/\o.isCells=false):Bo e b i s x d h y z u:=by
 obtain⟨v,L,M,B,N⟩:=j.row;obtain⟨P,Q,R⟩:=j.left;refine⟨⟨v,L,Qw n p M,B.kept n ?_,N⟩,⟨P,Q,Qw n p R⟩,fun k C=> ?_,ownFrom_below (β:=Unit) (aoP _) I () a u w j.FC n p,j.Qv⟩
 ·cases S:v.ownBlock with
  |none=>exact .inl rfl
  |some g=>
   refine .inr fun m=> ?_
   obtain⟨W,q⟩:=bt B S;obtain⟨_,o,D,U⟩:=p g m.symm;rw[q]at D;cases D;cases U
 ·obtain⟨c,t,f,q⟩:=F k C
  have E:=j.nT k C;rw[q]at E;rw[q];exact Qw n p E
theorem agZ{g}{j:Option Addr}(h:FA d a (.slice j g.length k) g)(n:j=some (H b))(c:Nat):Dm a b (8*c*2) (partOf g c):=fun i l=>by
 subst n;have m:8*c+i<g.length:=by
  unfold partOf at l;rw[ao7,apm]at l;omega
 have e:(partOf g c)[i]=g[8*c+i]:=by
  simp[partOf]
 have o:=iw (f:=lL) (fun _=>rfl) h rfl (8*c+i) m 0 (by omega);have p:=iw (f:=lL) (fun _=>rfl) h rfl (8*c+i) m 1 (by omega);rw[e];refine⟨?_,?_⟩
 ·rw[show 8*c*2+i*2=(8*c+i)*2+0 by omega,o];rfl
 ·rw[show 8*c*2+i*2+1=(8*c+i)*2+1 by omega,p];rfl
theorem ag0(a:List PId)(k:Nat):(partOf a k).length=zw a.length (8*k):=by
 unfold partOf zw;rw[ao7,apm]
def Qx (f:Array TypeId->TypeId->Array Value->Sem Value) (a:Array TypeId) (b:TypeId) (args:Array Value):Sem Go.Next:=do pure (.value (<-f a b args))
theorem ag1(b:Builtin)(d:b=.append)(a:Array TypeId)(c:TypeId)(e:Array Bool)(args:Array Value):builtin b a c e args=Qx Builtin.append_ a c args:=by
 subst d;rfl
attribute [local go_sem↓] ag1
theorem XF{b:Array TypeId}{c:TypeId}{args:Array Value}{d:Value}(h:(Builtin.append_ b c args).run prog a=.ok d e):(Qx Builtin.append_ b c args).run prog a=.ok (.value d) e:=by
 unfold Qx;rw[apk,h];rfl
theorem Qy(h:J a e):KeepsOthers a e:=⟨h.size,fun k o b _=>(h.block k (ao1.1 b).1).trans b⟩
theorem ag2(args:Array Value)(w:World):(callFunc 283 args).run prog w=.ok (.enter 283 args) w:=
 enters_of func283 (by kernel_rfl) rfl args w
theorem ag3{w I sp gt has ops early q gk known}(h:dx w k i I d sp f gt has ops early q)(Q:q9 w gk l d known)(ik:∀r,r<d->0<=known r/\has r<=60)(hr:∀r,r<d->known r<=60)(eP:∀x∈ops,0<=x.op.id.2/\x.op.id.2<d)(cB:(ops.map dX).Nodup):
  CallsIn Fence.wide 4 prog 275 #[Z k,.slice (some (H gk)) d l] w fun e w'=>∃v aB M dp de Y,e=.returned v/\fH w.heap.size w' (.slice dp M.length de) M/\M.Perm (ops.filter (r2 known))/\x8 M/\Y=(lj M (kg known has d) (List.range (min (chunks (kg known has d).length) 3))).2/\w'.ownsRow w.heap.size 147 1 v Y.length aB/\en (Dn dp) Y aB/\J w w':=by
 have oe:Fence.wide.round=none:=rfl;have h1:1<=4:=by omega
 have Bf:=h.hN;obtain⟨bc,a6,bd,bV,dC,im⟩:=h.cells;clear bc a6 bd dC im;obtain⟨i0,hi,hz0,hz1,hz2⟩:=info_parts (P:=prog) (e:=147) (z:=.nilIface) (size:=1) (bytes:=16) (by kernel_rfl);have gD:=aa (fun W (ab:J w W)=>agM (h.af ab).jM (Q.af ab) Bf eP cB);have k5:=aa (show(kg known has d).length<=240 by have :=Qn ik d (aoP _);omega);have db:=aa (fun W (ab:J w W)=>agS (h.af ab) (Q.af ab) ik hr);refine callsIn_of_wp_marks func275 rfl trivial ?_ oe;simp only[ntmps275,ap8,apd,apv,Nat.reduceAdd,Nat.reduceSub,aqQ,aqR,aqS,aqT,apN,apC];have od:k<w.heap.size:=h.lt _ h.cd;have oL:=World.new_ne w (K k 3) bV;have ax:=aa ((aoQ w.heap.size w).alloc (aoP _) (.cells #[.slice none 0 0] 165));have aC:=aa h;clear h Q ik hr eP cB
 gi_wp2_with (first
  |(refine⟨trivial,?_⟩;gi_at_call 276;refine(callsIn_wide.2 (gD.o _ ax.o)).mono ?_;rintro e U ⟨cO,M,rfl,mw,ev,Qz,aq⟩;obtain⟨dp,de,rfl,sD,ve,td⟩:=bp mw;have b8:=aa (And.intro mw (And.intro ev (And.intro Qz td)));have bf:=aa (ax.o.trans (aq.mono ax.o.size));have h8:=aa aq;have bK:=aa (bf.o.alloc bf.o.size (.cells #[.slice dp M.length de] 202));clear mw ev Qz aq td)
  |(refine⟨trivial,?_⟩;gi_at_call 278;refine(callsIn_wide.2 (db.o _ bK.o)).mono ?_;rintro e w2 ⟨cW,rfl,jJ,aU⟩;obtain⟨ap,cp,rfl,mT,eP,Hs⟩:=bp jJ;have ed:=aa (And.intro jJ (And.intro aU Hs));have fw:=aa (bK.o.trans (aU.mono bK.o.size));clear jJ aU Hs)
  |(refine⟨trivial,?_⟩;gi_at_call 277;refine(agW Fence.wide _ trivial rfl _ _ _ _).mono ?_;rintro e w3 ⟨rfl,rfl⟩)
  |fail)
 obtain⟨cg,LK⟩:∃cg,cg=kg known has d:=⟨_,rfl⟩;have fl:cg.length<=240:=by rw[LK];exact k5.o
 rw[<-LK]at ed mT⊢;have Fy:=aa LK;clear LK;obtain⟨jf,zg⟩:∃jf,(w2.alloc (.cells #[.slice ap cg.length cp] 378)).alloc (.cells #[A 8] 3)=jf:=⟨_,rfl⟩;have mM:jf.heap.size=w2.heap.size+2:=by rw[<-zg];simp
 have lD:=aa (show J w2 jf by rw[<-zg];exact((aoQ _ w2).alloc (aoP _) _).alloc (by simp) _);have x9:=aa (show jf.heap[w2.heap.size]?=some (.cells #[.slice ap cg.length cp] 378 (0,0)) by rw[<-zg,hV _ _ (by simp)];exact bL w2 _);have Bp:=aa (show jf.heap[w2.heap.size+1]?=some (.cells #[A 8] 3 (0,0)) by
  rw[<-zg];have :=bL (w2.alloc (.cells #[.slice ap cg.length cp] 378)) (.cells #[A 8] 3);rwa [show(w2.alloc (.cells #[.slice ap cg.length cp] 378)).heap.size=w2.heap.size+1 by simp]at this)
 rw[zg];clear zg;have XG:=hz1;have XH:=hz2;have hz1:=bf.o.size;have hz2:=ed.o.2.1.size;simp only[World.size_alloc]at hz2;have zn:=aa (fw.o.trans (lD.o.mono fw.o.size));have ly:=aa (show fH w.heap.size jf (.slice dp M.length de) M from c5 (c5 (c5 (gC b8.o.1 (by simp)) ((aoQ U.heap.size U).alloc (aoP _) (.cells #[.slice dp M.length de] 202))) ed.o.2.1) lD.o);have CP:=aa (show FA 0 jf (.slice ap cg.length cp) cg from c5 (Xk ed.o.1) lD.o);have zz:=aa (show jf.heap[U.heap.size]?=some (.cells #[.slice dp M.length de] 202 (0,0)) from bj (bj (bL U _) ed.o.2.1) lD.o);have Fw:=aa (show jf.heap[w.heap.size]?=some (.cells #[.slice none 0 0] 165 (0,0)) from bj (bj (bj (bj (bL w _) h8.o) ((aoQ U.heap.size U).alloc (aoP _) (.cells #[.slice dp M.length de] 202))) ed.o.2.1) lD.o);obtain⟨aJ,sY⟩:∃aJ,0<cg.length->ap=some (H aJ):=by
  by_cases jm:0<cg.length
  ·obtain⟨g,ah⟩:=ed.o.2.2 0 jm
   exact⟨g,fun _=>ah⟩
  ·exact⟨0,fun h=>absurd h jm⟩
 obtain⟨S,QA⟩:∃S:Nat->Prop,S=fun c=>c=w2.heap.size\/c=w2.heap.size+1\/(Value.slice ap cg.length cp).ownBlock=some c\/(Value.slice dp M.length de).ownBlock=some c:=⟨_,rfl⟩
 have Bk:=aa (show ∀c,S c->∃f t C,jf.heap[c]?=some (.cells f t C)/\c<jf.heap.size from fun c Q=>by
  rw[QA]at Q;rcases Q with rfl|rfl|Q|Q
  ·exact⟨_,_,_,x9.o,aM x9.o⟩
  ·exact⟨_,_,_,Bp.o,aM Bp.o⟩
  ·obtain⟨cur,N⟩:=bt CP.o Q
   exact⟨_,_,_,N,aM N⟩
  ·obtain⟨cur,N⟩:=bt ly.o Q
   exact⟨_,_,_,N,aM N⟩)
 have iG:=aa (show S w2.heap.size/\S (w2.heap.size+1)/\(∀c,(Value.slice ap cg.length cp).ownBlock=some c->S c)/\(∀c,(Value.slice dp M.length de).ownBlock=some c->S c)/\¬S w.heap.size/\¬S U.heap.size/\∀c f C,S c->jf.heap[c]?≠some (.cells f 147 C) by
  rw[QA];refine⟨.inl rfl,.inr (.inl rfl),fun c Q=>.inr (.inr (.inl Q)),fun c Q=>.inr (.inr (.inr Q)),?_,?_,?_⟩
  ·rintro(e|e|e|e)
   ·omega
   ·omega
   ·obtain⟨cur,N⟩:=bt CP.o e
    exact absurd (bz N Fw.o) (by decide)
   ·obtain⟨cur,N⟩:=bt ly.o e
    exact absurd (bz N Fw.o) (by decide)
  ·rintro(e|e|e|e)
   ·omega
   ·omega
   ·obtain⟨cur,N⟩:=bt CP.o e
    exact absurd (bz N zz.o) (by decide)
   ·obtain⟨cur,N⟩:=bt ly.o e
    exact absurd (bz N zz.o) (by decide)
  ·rintro c GG KK (rfl|rfl|Q|Q) vd
   ·exact absurd (bz vd x9.o) (by decide)
   ·exact absurd (bz vd Bp.o) (by decide)
   ·obtain⟨cur,N⟩:=bt CP.o Q
    exact absurd (bz vd N) (by decide)
   ·obtain⟨cur,N⟩:=bt ly.o Q
    exact absurd (bz vd N) (by decide))
 clear QA;have hcells:∀c,S c->∃f t C,jf.heap[c]?=some (.cells f t C):=fun c Q=>by
  obtain⟨f,t,C,h1,_⟩:=Bk.o c Q;exact⟨f,t,C,h1⟩
 refine wpIn_rangeFunc_ownG oe h1 (gf:=283) (lb:= #[Z w2.heap.size,Z (w2.heap.size+1)]) rfl trivial ag2
  (agX Fence.wide 3 trivial rfl (by omega) w2.heap.size (w2.heap.size+1) aJ cg.length cp (by omega) mT eP ap sY S iG.o.1 iG.o.2.1 jf (by simp[World.cell?,x9.o]) (by simp[World.cell?,Bp.o])) (fun h c=>h.trans c) ?N9 (aoQ _ _) (fun _=>rfl)
  (fun(pre:List (zx cg.length)) W=>Bo w U.heap.size S jf dp de M cg (pre.map fun x=>x.1) W) (fun f (pre:List (zx cg.length)) W=>f=.exit 0/\∃(Dq:List (zx cg.length)) (x:zx cg.length),pre=Dq++[x]/\Dq.length=3/\Bo w U.heap.size S jf dp de M cg (Dq.map fun x=>x.1) W)
  (by intro s F B row ad ah aI;exact Bo.grow ad hcells (by omega) ah aI)
  (fun f s F B row ad ah aI=>by
   obtain⟨h1,Dq,x,h2,ak,aL⟩:=ad;exact⟨h1,Dq,x,h2,ak,aL.grow hcells (by omega) ah aI⟩)
  ?h0 (fun x=>{tmps:= #[Z k,.slice (some (H gk)) d l,undef,undef,.slice none 0 0,Z w.heap.size,Z U.heap.size,FB aJ cg.length (8*x.1),undef,Z k,Z k,.pointer (some (K k 3)),Z q.ab,.slice (some (H gk)) d l,.slice dp M.length de,Z k,.slice (some (H gk)) d l,.slice ap cg.length cp,.func (.func 283) #[] #[Z w2.heap.size,Z (w2.heap.size+1)],FB aJ cg.length (8*x.1),undef,undef,undef,undef,undef,undef,undef,undef,undef,undef,undef,undef,undef,undef,undef,undef,undef,undef,undef,undef,undef,undef,undef,undef,undef,undef,undef,undef,undef],defers:=[]}) ?assign ?body ?done ?stop
 case N9=>
  intro W E o o' hl ae N hw c Q;refine World.putObj_heap_other fun e=> ?_
  obtain⟨_,_,_,_,aE⟩:=Bk.o c Q;omega
 case h0=>
  refine⟨⟨_,[],Fw.o,ao9 _ _ _ _,trivial⟩,⟨dp,?_,zz.o⟩,fun _ _=>rfl,zn.o,by simp⟩;cases zA:dp with
  |none=>exact .inl ⟨rfl,rfl⟩
  |some p=>
   obtain⟨g,HY⟩:∃g,p=(H g):=by
    rcases ly.o.2 with⟨aj,_⟩|⟨g,cap,cur,aj,_⟩
    ·rw[zA]at aj;cases aj
    ·rw[zA]at aj
     simp only[apo,apD]at aj;exact⟨g,aj.1⟩
   subst HY;exact .inr ⟨_,0,rfl,rfl,fun _=>by show 0=0*4;omega⟩
 case assign=>
  intro E x W L cw
  gi_wp2
  exact cw
 case body=>
  intro E pre x W cT aE;obtain⟨v,aB,aH,fb,wx⟩:=cT.row;obtain⟨zy,nx,FD⟩:=cT.left;have iE:=aa (Xz M cg (pre.map fun x=>x.1) x.1);have XI:=aa (agY M cg (pre.map fun x=>x.1));have FE:=aa (LI M cg (pre.map fun x=>x.1));obtain⟨m,ai⟩:∃m,m=(lj M cg (pre.map fun x=>x.1)).1:=⟨_,rfl⟩;obtain⟨Y,js⟩:∃Y,Y=(lj M cg (pre.map fun x=>x.1)).2:=⟨_,rfl⟩;rw[<-ai]at FD nx iE XI;rw[<-js]at fb wx iE FE;rw[aoU]at FE;clear ai js;obtain⟨a5,im,rfl,hl5,hc5,hf5⟩:=bp fb;clear hf5;unfold maxLen at hc5;have ya:W.cell? (V w 0)=some (.slice a5 Y.length im):=by simp[World.cell?,aH]
  have cZ:=aa (And.intro cT (And.intro aH fb));clear aH fb;have XJ:=aa wx;clear wx;by_cases ak:pre.length=3
  ·have a8:Y.length=3:=by have :=FE.o;omega
   rw[a8]at ya
   gi_wp2
   exact⟨KeepsFrom.refl _ _,rfl,pre,x,rfl,ak,cZ.o.1⟩
  ·have a8:¬Y.length=3:=by have :=FE.o;omega
   have hK:¬(Y.length:Int)=3:=by omega
   have ant:pre.length<3:=by have :=cZ.o.1.Qv;rw[aoU]at this;omega
   have jm:0<cg.length:=by have :=x.2;unfold chunks at this;omega
   have zB:=aa (show Dm W aJ (8*x.1*2) (partOf cg x.1) from fun r hi=>by
    obtain⟨aj,aw⟩:=agZ CP.o (sY jm) x.1 r hi;have XK:S aJ:=iG.o.2.2.1 aJ (by rw[sY jm];rfl);exact⟨cZ.o.1.nT.cell XK aj,cZ.o.1.nT.cell XK aw⟩)
   obtain⟨m8,FF⟩:∃m8,m8=8*x.1:=⟨_,rfl⟩;have LL:=aa (ag0 cg x.1);obtain⟨part,HZ⟩:∃part,part=partOf cg x.1:=⟨_,rfl⟩;rw[<-HZ]at zB LL iE;rw[<-FF]at zB LL⊢;have anu:m8<=240:=by have :=x.2;unfold chunks at this;omega
   have aT:=aa (And.intro HZ FF);clear HZ FF;have anv:part.length<=8:=by rw[LL.o];unfold zw;omega
   have CW:=XI.o;unfold FB;rw[<-LL.o];rcases nx with⟨zA,rfl⟩|⟨p,o,zA,rfl,ae⟩
   ·have sC:M=[]/\de=0:=by
     rcases ly.o.2 with⟨aj,_⟩|⟨g,cap,cur,aj,_⟩
     ·simp only[apo]at aj
      exact⟨aqg aj.2.1,aj.2.2⟩
     ·rw[zA]at aj
      cases aj
    obtain⟨rfl,rfl⟩:=sC;subst zA;obtain rfl:m=0:=Nat.le_zero.1 CW;have p3:uh (([]:List av).drop 0) part=0:=by simp[uh]
    rw[p3]at iE;have Dr:W.cell? (V U 0)=some (.slice none 0 0):=by simp[World.cell?,FD]
    have gQ:((Y.length:Int)==3)=false:=by simpa using hK
    gi_upto_region 6 with fail
    gi_step
    gi_step
    gi_step
    gi_step
    gi_step
    gi_step
    gi_step
    gi_step
    gi_cut [8] from 20 (fun r wc=>r=A 0/\wc=W)
    case first =>
     gi_wp2
     gi_loopw [8] (fun r wr=>r=A 0/\wr=W) (fun _ _=>0)
     case atStart=>exact⟨rfl,rfl⟩
     case round=>
      obtain⟨rfl,rfl⟩:=hrel
      gi_wp2_with (first
       |(refine⟨trivial,?_⟩)
       |fail)
      gi_meet
      case rel=>exact⟨rfl,rfl⟩
    case rest=>
     obtain⟨rfl,rfl⟩:=hcut;have wy:=aa cZ.o.2.2;have Ds:=aa cZ.o.2.1;have Dt:=aa (show wc.heap[U.heap.size]?=some (.cells #[.slice none 0 0] 202 (0,0)) by simpa using FD);have ag4:Y.length<=3:=by have :=FE.o;omega
     have pZ:w.heap.size<wc.heap.size:=aM Ds.o;have QB:U.heap.size<wc.heap.size:=aM Dt.o;have br:U.heap.size≠w.heap.size:=by
      have :=h8.o.size;simp only[World.size_alloc]at this;omega
     have ag5:wc.heap.size≠w.heap.size:=by omega
     have O2:wc.heap.size≠U.heap.size:=by omega
     have bM:=aa (show J wc (wc.alloc (.cells #[.iface 382 (.slice none 0 0)] 147)).drew from((aoQ wc.heap.size wc).alloc (aoP _) _).drew);obtain⟨v',w6,fa,Du,Dv,_⟩:=run_append_own (P:=prog) (wc.alloc (.cells #[.iface 382 (.slice none 0 0)] 147)).drew w.heap.size 165 165 147 i0 .nilIface 1 16 underlying165 hi hz0 XG XH rfl (by decide) (.slice a5 Y.length im) Y.length aB (c5 wy.o bM.o) (V wc 0) 1 1 [.iface 382 (.slice none 0 0)] rfl (by
      intro j u ar
      match j with
      |0=>simp at ar;subst ar;simp[go_sem]
      |j+1=>simp at ar) (by simp[Value.oneCell']) (by unfold maxLen;omega) (by omega) (aoS (Nat.le_of_lt pZ) bM.o.size)
     obtain⟨g',n4,rfl⟩:=ownsRow_succ Du;have Dw:=aa (aP.rN (S:=fun c=>(Value.slice a5 Y.length im).ownBlock=some c) Dv (fun c Q=>Q));have vl:=aa (show(Value.slice a5 Y.length im).ownBlock≠some w.heap.size from fun e=>by
      obtain⟨cur,N⟩:=bt wy.o e;exact absurd (bz N Ds.o) (by decide))
     have HF:=aa (show(Value.slice a5 Y.length im).ownBlock≠some U.heap.size from fun e=>by
      obtain⟨cur,N⟩:=bt wy.o e;exact absurd (bz N Dt.o) (by decide))
     have zC:=aa ((Dw.o.other w.heap.size (aoV pZ bM.o.size) vl.o).trans (bj Ds.o bM.o));have om:=aa ((Dw.o.other U.heap.size (aoV QB bM.o.size) HF.o).trans (bj Dt.o bM.o));have f5:=cS zC.o 0;have f6:=cS om.o 0;have g5:w6.cell? (V w 0)=some (.slice a5 Y.length im):=by simp[World.cell?,zC.o]
     have g6:w6.cell? (V U 0)=some (.slice none 0 0):=by simp[World.cell?,om.o]
     have rQ:=aa (And.intro Du Dv);clear Du Dv;have QC:=XF fa;clear fa
     gi_step
     gi_step
     gi_cut [] from 38 (fun w7=>w7=w6.setCell (V w 0) (.slice (some (H g')) (Y.length+1) n4))
     case first =>
      gi_region_with (fail)
      all_goals gi_wp2
      all_goals gi_meet
      all_goals rfl
     case rest=>
      subst hcut;have Dx:=aa (show aP (fun c=>c=w.heap.size) w6 (w6.setCell (V w 0) (.slice (some (H g')) (Y.length+1) n4)) from aP.lf _ rfl);have tY:=aa (show(w6.setCell (V w 0) (.slice (some (H g')) (Y.length+1) n4)).heap[w.heap.size]?=some (.cells #[.slice (some (H g')) (Y.length+1) n4] 165 (0,0)) from setRow zC.o);have qi:=aa ((Dx.o.other U.heap.size (aM om.o) br).trans om.o);have yb:=aa (iW rQ.o.1 (g:=w.heap.size) (o:=0) (fun e=>by
       obtain⟨cur,N⟩:=bt rQ.o.1 e;exact absurd (bz N zC.o) (by decide)) (.slice (some (H g')) (Y.length+1) n4))
      obtain⟨w7,zD⟩:∃w7,w6.setCell (V w 0) (.slice (some (H g')) (Y.length+1) n4)=w7:=⟨_,rfl⟩;rw[zD]at Dx tY qi yb⊢;have QD:=aa (show KeepsOthers w6 w7 by rw[<-zD];exact KeepsOthers.setCell _ _ _);have r1:=aa (show ∀n,n<=w.heap.size->Below n w6 w7 by rw[<-zD];exact fun n hn=>(aoQ n w6).setCell (p:=(V w 0)) hn _);clear zD g5 g6 f5 f6 QC ya Dr;have g6:w7.cell? (V U 0)=some (.slice none 0 0):=by simp[World.cell?,qi.o]
      have f6:=cS qi.o 0;have o0:KeepsFrom (w2.heap.size+2) wc (w7.setCell (V U 0) (.slice none 0 0))/\ti S wc (w7.setCell (V U 0) (.slice none 0 0))/\Bo w U.heap.size S jf none 0 [] cg ((pre++[x]).map fun x=>x.1) (w7.setCell (V U 0) (.slice none 0 0)):=by
       have H0:aP (fun c=>c=U.heap.size) w7 (w7.setCell (V U 0) (.slice none 0 0)):=aP.lf _ rfl;have CV:=Qy bM.o;have Ay:KeepsOthers _ w6:=KeepsOthers.of_grownBy rQ.o.2 (fun j o ar ae=>by
        obtain⟨cur,N⟩:=bt (c5 wy.o bM.o) ar;rw[N]at ae;cases ae;rfl)
       have qI:ti S wc (w7.setCell (V U 0) (.slice none 0 0)):=fun c Q=>by
        obtain⟨GG,FG,KK,FH,_⟩:=Bk.o c Q;have yc:=(cZ.o.1.nT c Q).trans FH;have aw:=bM.o.block c (aM yc);have cY:=Dw.o.other c (aM (aw.trans yc)) (fun e=>by
         obtain⟨cur,N⟩:=bt (c5 wy.o bM.o) e;rw[aw,cZ.o.1.nT c Q]at N;exact iG.o.2.2.2.2.2.2 c _ _ Q N)
        have iJ:=Dx.o.other c (aM (cY.trans (aw.trans yc))) (fun e=>iG.o.2.2.2.2.1 (e▸Q));have qs:=H0.other c (aM (iJ.trans (cY.trans (aw.trans yc)))) (fun e=>iG.o.2.2.2.2.2.1 (e▸Q));exact qs.trans (iJ.trans (cY.trans aw))
       refine⟨((CV.trans Ay).trans (QD.o.trans (KeepsOthers.setCell _ _ _))).from _,qI,?_⟩;rw[ao8];have H2:=iE.o;refine⟨?_,?_,cZ.o.1.nT.trans qI,?_,?_⟩
       ·rw[show[x].map (fun x=>x.1)=[x.1] from rfl,H2]
        refine⟨_,_,(H0.other w.heap.size (aM tY.o) (ao5 br)).trans tY.o,?_,en.snoc (R:=Dn none) (a:=(0,0)) (b:=.iface 382 (.slice none 0 0)) ?_ XJ.o⟩
        ·rw[aoW]
         exact iW yb.o (fun e=>by
          obtain⟨cur,N⟩:=bt yb.o e;exact absurd (bz N qi.o) (by decide)) _
        ·exact⟨none,0,rfl,aoP _,aoR _,fun h0=>absurd h0 (by decide)⟩
       ·rw[show[x].map (fun x=>x.1)=[x.1] from rfl,H2]
        exact⟨none,.inl ⟨rfl,rfl⟩,setRow qi.o⟩
       ·have aq:=cZ.o.1.FC
        have aU:=aq.trans (bM.o.mono aq.size);have a8:=aU.grown rQ.o.2 aU.size (fun c Q=>(aoT cZ.o.2.2 c Q).1);have fC:=a8.trans (r1.o _ (aoP _));exact fC.trans ((aoQ _ w7).setCell (p:=(V U 0)) (by omega) _)
       ·simp only[aoW,aoU,apd,apv]
        omega
      have LM:=aa o0;clear o0
      gi_wp2
      rw[mM];exact LM.o
   ·obtain⟨g,HY⟩:∃g,p=(H g):=by
     rcases ly.o.2 with⟨aj,_⟩|⟨g,cap,cur,aj,_⟩
     ·rw[zA]at aj;cases aj
     ·rw[zA]at aj
      simp only[apo,apD]at aj;exact⟨g,aj.1⟩
    subst HY;subst zA;dsimp only at FD ae;have cL:=aa ae;clear ae;have Dr:W.cell? (V U 0)=some (.slice (some (K g o)) (M.length-m) (de-m)):=by simp[World.cell?,FD]
    have ag6:=ve;unfold maxLen at ag6;have GN:S g:=iG.o.2.2.2.1 g rfl;have yV:=aa (show ∀j (ar:m+j<M.length),W.cell? (K g (o+j*4))=some (A M[m+j].op.id.1)/\W.cell? (K g (o+j*4+1))=some (A M[m+j].op.id.2)/\W.cell? (K g (o+j*4+2))=some (A M[m+j].op.nth)/\W.cell? (K g (o+j*4+3))=some (.iface M[m+j].t M[m+j].v) from fun j ar=>by
     obtain⟨ct,aj,aw,cY⟩:=fH.cells ly.o (m+j) ar;have ae:=cL.o (by omega);rw[show(m+j)*4=o+j*4 by omega]at ct aj aw cY;exact⟨cZ.o.1.nT.cell GN ct,cZ.o.1.nT.cell GN aj,cZ.o.1.nT.cell GN aw,cZ.o.1.nT.cell GN cY⟩)
    obtain⟨X,hcut⟩:∃X,X=uh (M.drop m) part:=⟨_,rfl⟩;rw[<-hcut]at iE;have ag7:m+X<=M.length:=by
     have :=Qu (M.drop m) part;rw[apm]at this;omega
    have Bq:=aa (show ∀j (ar:j<X),dX (M[m+j]'(aoV (Nat.add_lt_add_left ar m) ag7))∈part from fun j ar=>by
     rw[hcut]at ar;have :=XA (fun o=>decide (dX o∈part)) (M.drop m) j ar;simp only[arz]at this;exact of_decide_eq_true this)
    have ag8:=aa (show ∀(ar:m+X<M.length),dX M[m+X]∉part from fun ar=>by
     have :=XB (fun o=>decide (dX o∈part)) (M.drop m) (by rw[apm];unfold uh at hcut;omega);simp only[arz]at this;have e:((M.drop m).takeWhile fun o=>decide (dX o∈part)).length=X:=hcut.symm;simp only[e]at this;exact of_decide_eq_false this)
    clear hcut;have gQ:((Y.length:Int)==3)=false:=by simpa using hK
    gi_upto_region 6 with fail
    gi_step
    gi_step
    gi_step
    gi_step
    gi_step
    gi_step
    gi_step
    gi_step
    gi_cut [8] from 20 (fun r wc=>r=A (X:Nat)/\J W wc)
    case first =>
     gi_wp2
     gi_loopw [8] (fun r wr=>∃j,j<=X/\r=A (j:Nat)/\J W wr) (fun r _=>X-(intOf r).toNat)
     case atStart=>exact⟨0,aoR _,rfl,aoQ _ _⟩
     case round=>
      obtain⟨j,hjc,rfl,aZ⟩:=hrel;replace Dr:=af aZ Dr;have Ap:(0:Int)<=(j:Int):=ao0 _;by_cases ix:m+j<M.length
      ·obtain⟨ct,aj,aw,cY⟩:=yV.o j ix
       replace ct:=af aZ ct;replace aj:=af aZ aj;replace aw:=af aZ aw;replace cY:=af aZ cY;have Am:(j:Int)<((M.length-m:Nat):Int):=by omega
       have aK:=aa aZ;clear aZ;have XL:=aa (show decide ((M[m+j].op.id.2,M[m+j].op.nth)∈part)=decide (j<X) by
        by_cases o1:j<X
        ·rw[decide_eq_true o1]
         exact decide_eq_true (Bq.o j o1)
        ·have q4:j=X:=by omega
         rw[decide_eq_false o1];subst q4;exact decide_eq_false (ag8.o ix))
       obtain⟨y,XM⟩:∃y,y=M[m+j]:=⟨_,rfl⟩;rw[<-XM]at ct aj aw cY XL;clear XM;have dj:=aa (fun cR (ab:J W cR)=>agU (zB.o.af ab) y.op.id.2 y.op.nth (by omega) (by omega) (aoP _) (by omega));rw[XL.o]at dj;by_cases o1:j<X
       ·rw[decide_eq_true o1]at dj
        gi_wp2_with (first
         |(refine⟨trivial,?_⟩;gi_at_call 280;refine(CallsIn.inRound E (callsIn_wide.2 (Qh _ _ _ _ _ _))).mono ?_;rintro e w4 ⟨rfl,fC⟩;have Dy:=aa (aK.o.trans (fC.mono aK.o.size));clear fC)
         |(refine⟨trivial,?_⟩;gi_at_call 279;refine(CallsIn.inRound E (callsIn_wide.2 (dj.o _ Dy.o))).mono ?_;rintro e w5 ⟨rfl,qS⟩;have H3:=aa (Dy.o.trans (qS.mono Dy.o.size));clear qS)
         |fail)
        go_roundw
        case rel=>exact⟨j+1,by omega,by go_num,H3.o⟩
        case measure=>simp[intOf];omega
       ·rw[decide_eq_false o1]at dj
        have QE:=aa (show j=X by omega);clear o1
        gi_wp2_with (first
         |(refine⟨trivial,?_⟩;gi_at_call 280;refine(CallsIn.inRound E (callsIn_wide.2 (Qh _ _ _ _ _ _))).mono ?_;rintro e w4 ⟨rfl,fC⟩;have Dy:=aa (aK.o.trans (fC.mono aK.o.size));clear fC)
         |(refine⟨trivial,?_⟩;gi_at_call 279;refine(CallsIn.inRound E (callsIn_wide.2 (dj.o _ Dy.o))).mono ?_;rintro e w5 ⟨rfl,qS⟩;have H3:=aa (Dy.o.trans (qS.mono Dy.o.size));clear qS)
         |fail)
        gi_meet
        case rel=>exact⟨by rw[QE.o],H3.o⟩
      ·have Am:¬(j:Int)<((M.length-m:Nat):Int):=by omega
       have QE:=aa (show j=X by omega);have H3:=aa aZ;clear aZ
       gi_wp2_with (first
        |(refine⟨trivial,?_⟩)
        |fail)
       gi_meet
       case rel=>exact⟨by rw[QE.o],H3.o⟩
    case rest=>
     obtain⟨rfl,aZ⟩:=hcut;have wy:=aa (c5 cZ.o.2.2 aZ);have Ds:=aa (bj cZ.o.2.1 aZ);have Dt:=aa (bj FD aZ);have ag4:Y.length<=3:=by have :=FE.o;omega
     replace ya:=af aZ ya;replace Dr:=af aZ Dr;have pZ:w.heap.size<wc.heap.size:=aM Ds.o;have QB:U.heap.size<wc.heap.size:=aM Dt.o;have br:U.heap.size≠w.heap.size:=by
      have :=h8.o.size;simp only[World.size_alloc]at this;omega
     have ag5:wc.heap.size≠w.heap.size:=by omega
     have O2:wc.heap.size≠U.heap.size:=by omega
     have bM:=aa (show J wc (wc.alloc (.cells #[.iface 382 (.slice (some (K g o)) X (de-m))] 147)).drew from((aoQ wc.heap.size wc).alloc (aoP _) _).drew);obtain⟨v',w6,fa,Du,Dv,_⟩:=run_append_own (P:=prog) (wc.alloc (.cells #[.iface 382 (.slice (some (K g o)) X (de-m))] 147)).drew w.heap.size 165 165 147 i0 .nilIface 1 16 underlying165 hi hz0 XG XH rfl (by decide) (.slice a5 Y.length im) Y.length aB (c5 wy.o bM.o) (V wc 0) 1 1 [.iface 382 (.slice (some (K g o)) X (de-m))] rfl (by
      intro j u ar
      match j with
      |0=>simp at ar;subst ar;simp[go_sem]
      |j+1=>simp at ar) (by simp[Value.oneCell']) (by unfold maxLen;omega) (by omega) (aoS (Nat.le_of_lt pZ) bM.o.size)
     obtain⟨g',n4,rfl⟩:=ownsRow_succ Du;have Dw:=aa (aP.rN (S:=fun c=>(Value.slice a5 Y.length im).ownBlock=some c) Dv (fun c Q=>Q));have vl:=aa (show(Value.slice a5 Y.length im).ownBlock≠some w.heap.size from fun e=>by
      obtain⟨cur,N⟩:=bt wy.o e;exact absurd (bz N Ds.o) (by decide))
     have HF:=aa (show(Value.slice a5 Y.length im).ownBlock≠some U.heap.size from fun e=>by
      obtain⟨cur,N⟩:=bt wy.o e;exact absurd (bz N Dt.o) (by decide))
     have zC:=aa ((Dw.o.other w.heap.size (aoV pZ bM.o.size) vl.o).trans (bj Ds.o bM.o));have om:=aa ((Dw.o.other U.heap.size (aoV QB bM.o.size) HF.o).trans (bj Dt.o bM.o));have f5:=cS zC.o 0;have f6:=cS om.o 0;have g5:w6.cell? (V w 0)=some (.slice a5 Y.length im):=by simp[World.cell?,zC.o]
     have g6:w6.cell? (V U 0)=some (.slice (some (K g o)) (M.length-m) (de-m)):=by simp[World.cell?,om.o]
     have rQ:=aa (And.intro Du Dv);have k5:=aa aZ;clear Du Dv aZ;have LN:(0:Int)<=(X:Int):=ao0 _;have LO:X<=M.length-m:=by omega
     have Ex:M.length-m<=de-m:=by omega
     have QC:=XF fa;clear fa
     gi_step
     gi_step
     gi_cut [] from 38 (fun w7=>w7=w6.setCell (V w 0) (.slice (some (H g')) (Y.length+1) n4))
     case first =>
      gi_region_with (fail)
      all_goals gi_wp2
      all_goals gi_meet
      all_goals rfl
     case rest=>
      subst hcut;have Dx:=aa (show aP (fun c=>c=w.heap.size) w6 (w6.setCell (V w 0) (.slice (some (H g')) (Y.length+1) n4)) from aP.lf _ rfl);have tY:=aa (show(w6.setCell (V w 0) (.slice (some (H g')) (Y.length+1) n4)).heap[w.heap.size]?=some (.cells #[.slice (some (H g')) (Y.length+1) n4] 165 (0,0)) from setRow zC.o);have qi:=aa ((Dx.o.other U.heap.size (aM om.o) br).trans om.o);have yb:=aa (iW rQ.o.1 (g:=w.heap.size) (o:=0) (fun e=>by
       obtain⟨cur,N⟩:=bt rQ.o.1 e;exact absurd (bz N zC.o) (by decide)) (.slice (some (H g')) (Y.length+1) n4))
      obtain⟨w7,zD⟩:∃w7,w6.setCell (V w 0) (.slice (some (H g')) (Y.length+1) n4)=w7:=⟨_,rfl⟩;rw[zD]at Dx tY qi yb⊢;have QD:=aa (show KeepsOthers w6 w7 by rw[<-zD];exact KeepsOthers.setCell _ _ _);have r1:=aa (show ∀n,n<=w.heap.size->Below n w6 w7 by rw[<-zD];exact fun n hn=>(aoQ n w6).setCell (p:=(V w 0)) hn _);clear zD g5 g6 f5 f6 QC ya Dr;have g6:w7.cell? (V U 0)=some (.slice (some (K g o)) (M.length-m) (de-m)):=by simp[World.cell?,qi.o]
      have f6:=cS qi.o 0;have o0:∀tL,XE (some (H g)) de (m+X) tL->KeepsFrom (w2.heap.size+2) W (w7.setCell (V U 0) (.slice tL (M.length-m-X) (de-m-X)))/\ti S W (w7.setCell (V U 0) (.slice tL (M.length-m-X) (de-m-X)))/\Bo w U.heap.size S jf (some (H g)) de M cg ((pre++[x]).map fun x=>x.1) (w7.setCell (V U 0) (.slice tL (M.length-m-X) (de-m-X))):=by
       intro tL hL8;have H0:aP (fun c=>c=U.heap.size) w7 (w7.setCell (V U 0) (.slice tL (M.length-m-X) (de-m-X))):=aP.lf _ rfl;have Hi:=Qy k5.o;have CV:=Qy bM.o;have Ay:KeepsOthers _ w6:=KeepsOthers.of_grownBy rQ.o.2 (fun j o ar ae=>by
        obtain⟨cur,N⟩:=bt (c5 wy.o bM.o) ar;rw[N]at ae;cases ae;rfl)
       have qI:ti S W (w7.setCell (V U 0) (.slice tL (M.length-m-X) (de-m-X))):=fun c Q=>by
        obtain⟨GG,FG,KK,FH,_⟩:=Bk.o c Q;have yc:=(cZ.o.1.nT c Q).trans FH;have aj:=k5.o.block c (aM yc);have aw:=bM.o.block c (aM (aj.trans yc));have cY:=Dw.o.other c (aM (aw.trans (aj.trans yc))) (fun e=>by
         obtain⟨cur,N⟩:=bt (c5 wy.o bM.o) e;rw[aw,aj,cZ.o.1.nT c Q]at N;exact iG.o.2.2.2.2.2.2 c _ _ Q N)
        have iJ:=Dx.o.other c (aM (cY.trans (aw.trans (aj.trans yc)))) (fun e=>iG.o.2.2.2.2.1 (e▸Q));have qs:=H0.other c (aM (iJ.trans (cY.trans (aw.trans (aj.trans yc))))) (fun e=>iG.o.2.2.2.2.2.1 (e▸Q));exact qs.trans (iJ.trans (cY.trans (aw.trans aj)))
       refine⟨(((Hi.trans CV).trans Ay).trans (QD.o.trans (KeepsOthers.setCell _ _ _))).from _,qI,?_⟩;rw[ao8];have H2:=iE.o;have Br:=cZ.o.1.FC.size;refine⟨?_,?_,cZ.o.1.nT.trans qI,?_,?_⟩
       ·rw[show[x].map (fun x=>x.1)=[x.1] from rfl,H2]
        refine⟨_,_,(H0.other w.heap.size (aM tY.o) (ao5 br)).trans tY.o,?_,en.snoc (R:=Dn (some (H g))) (a:=(m,X)) (b:=.iface 382 (.slice (some (K g o)) X (de-m))) ?_ XJ.o⟩
        ·rw[aoW]
         exact iW yb.o (fun e=>by
          obtain⟨cur,N⟩:=bt yb.o e;exact absurd (bz N qi.o) (by decide)) _
        ·refine⟨some (K g o),de-m,rfl,by show X<=de-m;omega,by omega,fun h0=>⟨(H g),rfl,?_⟩⟩
         have h0':0<X:=h0;rw[cL.o (by omega)]
       ·rw[show[x].map (fun x=>x.1)=[x.1] from rfl,H2]
        refine⟨tL,hL8,?_⟩;rw[show M.length-(m+X)=M.length-m-X by omega,show de-(m+X)=de-m-X by omega];exact setRow qi.o
       ·have aq:=cZ.o.1.FC.trans (k5.o.mono Br)
        have aU:=aq.trans (bM.o.mono aq.size);have a8:=aU.grown rQ.o.2 aU.size (fun c Q=>(aoT cZ.o.2.2 c Q).1);have fC:=a8.trans (r1.o _ (aoP _));exact fC.trans ((aoQ _ w7).setCell (p:=(V U 0)) (by omega) _)
       ·simp only[aoW,aoU,apd,apv]
        omega
      have LM:=aa o0;clear o0
      gi_wp2
      ·have ct:de-m-X=0:=by omega
       have aD:=LM.o (some (K g o)) (.inr ⟨_,o,rfl,rfl,fun h=>by omega⟩);rw[ct]at aD;exact aD
      ·exact LM.o (some (K g (o+X*4))) (.inr ⟨_,_,rfl,rfl,fun h=>by have :=cL.o (by omega);omega⟩)
 case done=>
  rintro D xs W rG bY cT cw;obtain⟨v,aB,aH,fb,wx⟩:=cT.row;have N:W.cell? (V w 0)=some v:=by simp[World.cell?,aH]
  have dO:xs.map (fun x=>x.1)=List.range (min (chunks cg.length) 3):=by
   have h1:=cT.Qv;have h2:=bY;rw[h2]at h1⊢;rw[ap4]at h1;rw[aqD h1]
  rw[dO]at fb wx;have aT:=aa (And.intro cT (And.intro fb wx));clear fb wx bY;have QF:w.heap.size<=D:=by omega
  gi_wp2
  refine⟨by simp,.inl ⟨_,_,rfl,run_takeDeferred cw,?_⟩⟩;refine⟨_,results_tmp rfl _ _ _,v,aB,M,dp,de,_,rfl,?_,b8.o.2.1,b8.o.2.2.1,rfl,?_,?_,aT.o.1.FC.trans (N7 QF cw)⟩
  ·exact ownsRow_putObj (b4 ly.o fun g ah=>aT.o.1.nT g (iG.o.2.2.2.1 g ah)) _ cw rfl
  ·rw[<-Fy.o]
   exact ownsRow_putObj aT.o.2.1 _ cw rfl
  ·rw[<-Fy.o]
   exact aT.o.2.2
 case stop=>
  rintro D f pre W rG ⟨c,Q,nR⟩ ⟨rfl,Dq,x,rfl,ak,cT⟩ cw;obtain⟨v,aB,aH,fb,wx⟩:=cT.row;have N:W.cell? (V w 0)=some v:=by simp[World.cell?,aH]
  have dO:Dq.map (fun x=>x.1)=List.range (min (chunks cg.length) 3):=by
   have aL:c=4:=by
    have :=congrArg List.length nR;simp only[aoU,aoW,apd,apv,ap4]at this;omega
   subst aL;rw[Nat.min_eq_right (by omega)];rw[ao8]at nR;have :=congrArg (List.take 3) nR;rw[ap3 (by rw[aoU,ak];exact aoP _),apc (by rw[aoU,ak];exact aoP _)]at this;exact this
  rw[dO]at fb wx;have aT:=aa (And.intro cT (And.intro fb wx));clear fb wx nR;have QF:w.heap.size<=D:=by omega
  gi_wp2
  refine⟨by simp,.inl ⟨_,_,rfl,run_takeDeferred cw,?_⟩⟩;refine⟨_,results_tmp rfl _ _ _,v,aB,M,dp,de,_,rfl,?_,b8.o.2.1,b8.o.2.2.1,rfl,?_,?_,aT.o.1.FC.trans (N7 QF cw)⟩
  ·exact ownsRow_putObj (b4 ly.o fun g ah=>aT.o.1.nT g (iG.o.2.2.2.1 g ah)) _ cw rfl
  ·rw[<-Fy.o]
   exact ownsRow_putObj aT.o.2.1 _ cw rfl
  ·rw[<-Fy.o]
   exact aT.o.2.2
theorem ag9{gt o early q gk m}(g:dx a d i j b k l gt o h early q)(u:q9 a gk f b m)(w:∀c,c<b->0<=m c/\o c<=60)(y:∀c,c<b->m c<=60)(z:∀x∈h,0<=x.op.id.2/\x.op.id.2<b)(B:(h.map dX).Nodup):
  O 275 #[Z d,.slice (some (H gk)) b f] a fun e p=>∃v s n t C r,e=.returned v/\fH a.heap.size p (.slice t n.length C) n/\n.Perm (h.filter (r2 m))/\x8 n/\r=(lj n (kg m o b) (List.range (min (chunks (kg m o b).length) 3))).2/\p.ownsRow a.heap.size 147 1 v r.length s/\en (Dn t) r s/\J a p:=
 callsIn_wide.1 (ag3 g u w y z B)
end
section
open Go.RowKit Tryz
attribute [local go_sem ↓] Go.wp_at_zero Go.wp_at_succ
variable {a:List av}{b e i k:Nat}{d:World}{f:Nat->Int}{h j:Nat->Prop}
abbrev iH:=List Int⊕List av
def rowOf (l:List Int) (i:Nat):Int:=l.getD i 0
def r3 (w:World) (I:Nat->Prop):iH->Value->Prop
 |.inl l,u=>∃g c,u=.iface 115 (.slice (some (H g)) l.length c)/\q9 w g c l.length (rowOf l)/\I g
 |.inr a,u=>∃s,u=.iface 382 s/\opsV w I s a
theorem q9.gU{c:World}(h:q9 d b e i f)(g:c.heap[b]?=d.heap[b]?)(j:d.heap.size<=c.heap.size):q9 c b e i f:=
 ⟨fun a k=>by have :=h.cells a k;simpa[World.cell?,g]using this,h.HT,h.HU,aoV h.lt j⟩
theorem r3.gU{w a:World}{I h:Nat->Prop}:∀{m:iH} {u:Value},r3 w I m u->(∀k,I k->a.heap[k]?=w.heap[k]?)->w.heap.size<=a.heap.size->(∀k,I k->h k)->r3 a h m u
 |.inl l,u,⟨g,c,b,d,i⟩,e,j,f=>⟨g,c,b,d.gU (e g i) j,f g i⟩
 |.inr n,u,⟨s,b,d⟩,e,_,f=>⟨s,b,d.gU e f⟩
theorem XN(a:List av)(d:List PId):∀(e:List Nat) (s:Nat×List (Nat×Nat)),s.1<=a.length->(∀b∈s.2,b.1+b.2<=a.length)->∀b∈(e.foldl (wv a d) s).2,b.1+b.2<=a.length
 |[],s,_,h=>h
 |k::e,s,g,h=>by
  have f:=Qu (a.drop s.1) (partOf d k);rw[apm]at f;refine XN a d e (wv a d s k) (by unfold wv;simp only;omega) fun b c=> ?_
  unfold wv at c;rcases aoZ.1 c with c|c
  ·exact h b c
  ·obtain rfl:=ao2.1 c
   simp only;omega
theorem aha{c:List PId}{d:List Nat}{b:Nat×Nat}(h:b∈(lj a c d).2):b.1+b.2<=a.length:=XN a c d (0,[]) (aoR _) (fun _ e=>by cases e) b h
def H4 (a:List av) (b:Nat×Nat):iH:=.inr ((a.drop b.1).take b.2)
theorem ahb{u}{o:Option Addr}(i:fH e d (.slice o a.length b) a)(Q:a.length<=300)(z:∀x∈a,pF d h (.iface x.t x.v) x.op.chg)(B:∀k,(Value.slice o a.length b).ownBlock=some k->h k){f:Nat×Nat}(R:f.1+f.2<=a.length)(C:Dn o f u):r3 d h (H4 a f) u:=by
 obtain⟨j,c,rfl,D,E,F⟩:=C;have n:((a.drop f.1).take f.2).length=f.2:=by rw[ao7,apm];omega
 refine⟨_,rfl,j,c,by rw[n],by rw[n];exact D,E,fun q=> ?_,fun x I=>z x (ap0 (apx I))⟩;rw[n]at q;obtain⟨p,L,M⟩:=F q;subst L;obtain⟨g,N⟩:∃g,p=(H g):=by
  rcases i.2 with⟨m,_⟩|⟨g,S,U,m,_⟩
  ·cases m
  ·simp only[apo,apD]at m
   exact⟨g,m.1⟩
 subst N;refine⟨g,f.1*4,M,⟨fun k r=> ?_,B g rfl,by omega⟩⟩;rw[n]at r;have P:f.1+k<a.length:=by omega
 have l:((a.drop f.1).take f.2)[k]'(by rw[n];exact r)=a[f.1+k]:=by simp
 obtain⟨s,m,w,y⟩:=fH.cells i (f.1+k) P;rw[show(f.1+k)*4=f.1*4+k*4 by omega]at s m w y;rw[l];exact⟨s,m,w,y⟩
def ahc (B:Nat) (w:World) (v:Value) (a:List av) (b:Option Addr) (e:Nat) (c:List (Nat×Nat)) (d:List Value):Prop:=fH B w (.slice b a.length e) a/\w.ownsRow B 147 1 v c.length d/\en (Dn b) c d
def FI (c:List av) (a b:Nat->Int) (N:Nat):List (Nat×Nat):=(lj c (kg a b N) (List.range (min (chunks (kg a b N).length) 3))).2
theorem ahd{c gt w early q gk M}(p:dx d i h j b k c gt w a early q)(s:Int)(X:bq s q.kV=some e)(N:q9 d gk M b f)(P:j gk)(Y:∀g,g<b->0<=f g/\w g<=60)(qo:∀g,g<b->f g<=60)(eP:∀x∈a,0<=x.op.id.2/\x.op.id.2<b)(cB:(a.map dX).Nodup):
  O 273 #[.slice (some (H gk)) b M,Z i,A s] d fun l Q=>∃v R u S U,l=.returned v/\u.Perm (a.filter (r2 f))/\x8 u/\ahc d.heap.size Q v u S U (FI u f w b) R/\dx Q i h j b k c gt w a early {q with eb:=fun m=>if m=e then nS (q.eb e) f b else q.eb m}/\aP (fun n=>n=e) d Q/\h e:=by
 have HKM:=aa (agR p s X N P);have HAN:=aa (fun W (bA:dx W i h j b k c gt w a early {q with eb:=fun m=>if m=e then nS (q.eb e) f b else q.eb m}) (hk:q9 W gk M b f)=>ag9 bA hk Y qo eP cB);have kp:=aa (show ∀n,h n->gk≠n from fun n hF l=>p.eT _ P (l▸hF));have KH:=aa N;clear p N Y qo eP cB P X;go_enter func273,ntmps273;go_wp2_with fail
 refine HKM.o.mono ?_;rintro l w1 ⟨⟨r,rfl⟩,y,t,z⟩;have bR:=aa (HAN.o w1 y (KH.o.gU (t.other gk KH.o.lt (kp.o e z)) t.size));have aT:=aa (And.intro y (And.intro t z));clear y t z;go_wp2_with fail
 refine bR.o.mono ?_;rintro l w2 ⟨v,R,u,S,U,bs,rfl,C,D,E,F,I,L,B⟩;have hv:=aa (And.intro C (And.intro D (And.intro E (And.intro F (And.intro I (And.intro L B))))));clear C D E F I L B;go_wp2;go_ret
 obtain⟨C,D,E,F,I,L,B⟩:=hv.o;obtain⟨y,t,z⟩:=aT.o;subst F;exact⟨v,R,u,S,U,rfl,D,E,⟨gC C t.size,gC I t.size,L⟩,y.af B,t.trans (aP.cQ B),z⟩
theorem ahe{gt early q v}(g:dx d e j h b i k gt f a early q)(s:List av)(t:opsV d h v s)(u:∀x∈s,0<=x.op.id.2/\x.op.id.2<b)(w:((iF f early s).map (·.1)).Nodup)(y:∀p∈iF f early s,p.1.2<=60)(z:∀c,c<b->0<=f c/\f c<=1000)(B:((iq (iF f early s) f b++a).map fun o=>o.op.id).Nodup)(C:a.length+(iq (iF f early s) f b).length<=300)(D:∀x∈iq (iF f early s) f b,0<=x.op.id.2/\x.op.id.2<b)(m:Int):
  O 308 #[v,Z e,A m] d fun l E=>l=.returned (.slice none 0 0)/\∃F I L,dx E e F h b i k (nw gt (iq (iF f early s) f b)) (hasAll f (iq (iF f early s) f b)) (ja a (iq (iF f early s) f b)) L I/\vh (iF f early s) (qm (iF f early s) f b) L/\Fl q I/\c0 j F d E:=by
 have N:=aa (agK g s t u w y z B C D);obtain⟨n,Q,rfl,_⟩:=t;clear g u w y z B C D;go_enter func308,ntmps308;go_wp2_with fail
 refine N.o.mono ?_;rintro l R ⟨⟨r,rfl⟩,M⟩;have P:=aa M;clear M;go_wp2;go_ret
 exact⟨rfl,P.o⟩
end
end Go.Proofs.YtnkpogjiiohapaaGreatDoor
