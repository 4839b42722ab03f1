/- Our own text. -/
import Derived.Maps.RangeRun
import Derived.RangeFuncGives
import Derived.RangeFuncSeq
import Derived.Sort.MapsRangeIn
import Derived.OwnWalkIn
import Derived.TacticsInMore
import Derived.RegionIn
import Derived.LoopNIn
import Derived.LoopIn
import Derived.Maps.AppendAt
import Derived.Shelf.Abstract
import Derived.RangeFuncNested
import Derived.RangeFuncBox
import Derived.RangeFuncLeaves
import Derived.LoopN
import Derived.Deep.DeepCutAuto
import Derived.Test.YtnkpogjiiohapaaGreatDoorA06
import Derived.Test.YtnkpogjiiohapaaGreatDoorA05
set_option linter.unusedSimpArgs false
set_option linter.unusedVariables false
set_option maxRecDepth 1000000
set_option maxHeartbeats 3200000
namespace Go.Proofs.YtnkpogjiiohapaaGreatDoor
section
open Go.RowKit Tryz
open Go.ChangeMaps (setBlock)
variable {a:Array MapEntry}{b:List MapEntry}{d f h:Nat}{e i:World}
def EJ (b r:Nat) (w:World):Nat:=
 match w.heap[b]?,w.heap[r]? with
 |some (.map a _),some (.mapIter _ _ seen _)=>(leftOf a seen).size
 |_,_=>0
structure Walk (es:Array MapEntry) (aR b r:Nat) (seen:Array Nat) (l:List MapEntry) (w:World):Prop where
 map:w.heap[b]?=some (.map es aR)
 iter:w.heap[r]?=some (.mapIter (some b) aR seen aR)
 seen:seen.toList=l.map (·.born)
 sub:∀e∈l,e∈es.toList
theorem Walk.left{seen w}(c:Walk a h d f seen b w):EJ d f w=(leftOf a seen).size:=by
 simp[EJ,c.map,c.iter]
theorem Kr(b:i=e\/i=e.drew)(r:Nat)(o:Obj):e.grownBy (setBlock i r o) (some r):=by
 have h:i.heap=e.heap/\i.os=e.os/\i.tape=e.tape/\i.output=e.output:=by rcases b with rfl|rfl<;>exact⟨rfl,rfl,rfl,rfl⟩
 refine⟨h.2.1,h.2.2.1,h.2.2.2,by simp[setBlock,h.1],fun k d c=> ?_⟩;have :r≠k:=fun a=>c (by rw[a])
 simp[setBlock,aqj,this,h.1]
theorem Walk.next{seen}{j:World}(c:Walk a f h d seen b i)(m:d≠h){e:MapEntry}(k:e∈(leftOf a seen).toList)(n:j=i\/j=i.drew):
  Walk a f h d (seen.push e.born) (b++[e]) (setBlock j d (.mapIter (some h) f (seen.push e.born) f)):=by
 have l:j.heap=i.heap:=by rcases n with rfl|rfl<;>rfl
 have o:d<i.heap.size:=(ao1.1 c.iter).1;refine⟨?_,?_,by simp[c.seen],?_⟩
 ·simp[setBlock,aqj,m,l,c.map]
 ·simp[setBlock,l,o]
 ·intro p g
  rcases aoZ.1 g with g|g
  ·exact c.sub p g
  ·simp at g;subst g
   unfold leftOf at k;simp at k;simpa using k.1
theorem GP{seen:Array Nat}{e:MapEntry}(c:e∈(leftOf a seen).toList):(leftOf a (seen.push e.born)).size<(leftOf a seen).size:=by
 have b:leftOf a (seen.push e.born)=(leftOf a seen).filter fun x=>x.born !=e.born:=by
  unfold leftOf;rw[Array.filter_filter];congr 1;funext x;by_cases b:x.born=e.born<;>simp[b,bne]
 rw[b];have d:e∈leftOf a seen:=by simpa using c
 simp;exact⟨e,d,rfl⟩
theorem Walk.all{seen}(k:Walk a f d h seen b i)(r:(a.toList.map (·.born)).Nodup)(x:(b.map (·.born)).Nodup)(y:(leftOf a seen).size=0):b.Perm a.toList:=by
 have z:leftOf a seen= #[]:=Array.eq_empty_of_size_eq_zero y;have B:∀e∈a.toList,e.born∈b.map (·.born):=by
  intro e m;rw[<-k.seen];apply Classical.byContradiction;intro o;have :e∈leftOf a seen:=by
   unfold leftOf;simp;refine⟨by simpa using m,?_⟩;intro C;exact o (by simpa using C)
  rw[z]at this;simp at this
 have inj:∀g∈a.toList,∀c∈a.toList,g.born=c.born->g=c:=by
  intro g n c o s;obtain⟨l,t,rfl⟩:=apl.1 n;obtain⟨j,u,rfl⟩:=apl.1 o;by_cases v:l=j
  ·subst v;rfl
  ·exfalso
   have w:=apM.1 r;rcases aro v with p|p
   ·exact w l j (by simpa using t) (by simpa using u) p (by simpa using s)
   ·exact w j l (by simpa using u) (by simpa using t) p (by simpa using s.symm)
 have D:a.toList.Nodup:=(List.Pairwise.of_map _ (fun g d q e=>q (by rw[e])) r);have E:b.Nodup:=(List.Pairwise.of_map _ (fun g d q e=>q (by rw[e])) x);refine(List.perm_ext_iff_of_nodup E D).2 fun g=>⟨k.sub g,fun n=> ?_⟩
 obtain⟨e,m,F⟩:=aoX.1 (B g n);rw[<-inj e (k.sub e m) g n F];exact m
def KeysOf (l:List MapEntry) (a:List PId):Prop:=l.map (·.key)=a.map cX
def Uj:Value->Int
 |.int _ n=>n
 |_=>0
def N5:Value->PId
 |.agg c=>(Uj (c[0]?.getD undef),Uj (c[1]?.getD undef))
 |_=>(0,0)
theorem ada{a b:List PId}(h:(a.map cX).Perm (b.map cX)):a.Perm b:=by
 have c:∀l:List PId,(l.map cX).map N5=l:=fun l=>by
  rw[apI];have :N5∘cX=id:=by funext x;rfl
  rw[this,List.map_id]
 have :=h.map N5;rwa [c,c]at this
attribute [local go_sem] Oper.semAt_some
theorem adb(F:Fence)(n:Nat)(EK:F.fn 164)(oe:F.round=none)(hn:1<=n)(l U b:Nat)(p:List (PId×dR))(g:Array MapEntry)(f:Nat)(d X:List PId->World->Prop)(Cx:∀u x W,d u W->u.length<p.length->YieldAt F (n-1) prog l #[cX x] W fun e w=>(e=.returned (.bool true)/\d (u++[x]) w/\KeepsWalks W w)\/(e=.returned (.bool false)/\X (u++[x]) w))(W:World)(E:AbidesFrom W.heap.size d)(hm:W.cell? (H U)=some (.map (some b)))(B:isMap cX oH W b p g f)(Y:d [] W):
  CallsIn F n prog 164 #[.func (.yield l) #[] #[],Z U] W fun e w=>(∃v,e=.returned v)/\((∃ss:List PId,ss.Perm (p.map (·.1))/\d ss w)\/∃u,True/\X u w):=by
 have po:=run_range_map (P:=prog) W 159 36 57 b g f underlying159 B.blk;refine callsIn_of_wp func164 rfl EK ?_ oe;simp only[ntmps164,ap8,apd,apv,Nat.reduceAdd,Nat.reduceSub,aqQ,aqR,aqS,aqT,apN,apC]
 gi_wp2
 have fN:=B.lt;have Cy:Walk g f b W.heap.size #[] [] (W.alloc (.mapIter (some b) f #[] f)):=⟨by rw[hV W _ fN];exact B.blk,heap_alloc_new W _,rfl,fun e k=>by cases k⟩;have N6:d [] (W.alloc (.mapIter (some b) f #[] f)):=E [] W _ none Y (World.grownBy_alloc W _ none) (fun r e=>by cases e);have z:=aa B;clear B po hm Y
 gi_loopw [3] (fun _ wr=>∃seen q i,Walk g f b W.heap.size seen q wr/\(q.map (·.born)).Nodup/\KeysOf q i/\q.length+(leftOf g seen).size<=p.length/\d i wr) (fun _ wr=>EJ b W.heap.size wr)
 case atStart=>exact⟨#[],[],[],Cy,by simp,rfl,by rw[<-z.o.len];simp only[apv,apF];exact Array.size_filter_le,N6⟩
 case round=>
  obtain⟨seen,q,i,vQ,cB,dO,uH,I⟩:=hrel;have s:=aa vQ;clear vQ;have L:=aa dO;clear dO;have e0:=aa cB;clear cB;rcases run_next_at (P:=prog) wr 0 W.heap.size b f f seen g f s.o.iter s.o.map z.o.old (aoP _) with⟨uE,C⟩|⟨e,k,w1,M,C⟩
  ·gi_wp2
   go_end0
   refine⟨⟨_,rfl⟩,.inl ⟨i,?_,I⟩⟩;have ag:=s.o.all z.o.nodup e0.o uE;have t:=ag.map (·.key);have D:g.toList.map (·.key)=(p.map (·.1)).map cX:=by
    have :=congrArg (List.map Prod.fst) z.o.mD;simpa[aru]using this
   rw[L.o,D]at t;exact ada t
  ·have gS:e∈g.toList:=by unfold leftOf at k;simp at k;simpa using k.1
   obtain⟨x,N⟩:∃x,e.key=cX x:=by
    have D:g.toList.map (·.key)=(p.map (·.1)).map cX:=by
     have :=congrArg (List.map Prod.fst) z.o.mD;simpa[aru]using this
    have :e.key∈g.toList.map (·.key):=aoX.2 ⟨e,gS,rfl⟩;rw[D]at this;obtain⟨y,_,Q⟩:=aoX.1 this;exact⟨y,Q.symm⟩
   have m:=aa (s.o.next (by omega) k M);obtain⟨j,R⟩:∃j,j=setBlock w1 W.heap.size (.mapIter (some b) f (seen.push e.born) f):=⟨_,rfl⟩;rw[<-R]at C m;have nM:=run_entry_at (P:=prog) j W.heap.size b f seen g f e m.o.iter m.o.map gS z.o.nodup;rw[N]at C nM;have e1:wr.grownBy j (some W.heap.size):=by
    rw[R];exact Kr M _ _
   have Uk:d i j:=E i wr j (some W.heap.size) I e1 (fun r e=>by cases e;exact⟨aoP _,_,s.o.iter,rfl⟩);have GQ:d i (j.alloc (.cells #[A x.1,A x.2] 36)):=E i j _ none Uk (World.grownBy_alloc j _ none) (fun r e=>by cases e);have hlen:i.length<p.length:=by
    have t:i.length=q.length:=by have :=congrArg List.length L.o;simpa using this.symm
    have D:=GP k;omega
   obtain⟨fn,tmps,assign,body,Q,bB⟩:=Cx i x _ GQ hlen;have ly:=aa (GP k);have yM:=aa k;clear k M R e1 Uk GQ I;unfold cX at C nM Q;have HHX:=aa N;clear N
   gi_wp2
   refine bB.mono ?_;rintro e' jf (⟨rfl,hJ4,hp⟩|⟨rfl,Ul⟩)
   case inr=>
    gi_wp2
    exact bodyPost_ret (v:=.tuple #[]) (by simp[results,results164,go_sem]) rfl ⟨⟨_,rfl⟩,.inr ⟨_,trivial,Ul⟩⟩
   have ni:=aa hp;clear hp
   gi_wp2
   have fM:Walk g f b W.heap.size (seen.push e.born) (q++[e]) jf:=by
    have aU:=(ao1.1 m.o.map).1;have gh:=(ao1.1 m.o.iter).1;exact⟨ni.o.same b _ ((hV j _ aU).trans m.o.map) rfl,ni.o.same _ _ ((hV j _ gh).trans m.o.iter) rfl,m.o.seen,m.o.sub⟩
   have sC:=ly.o;go_roundw
   case rel=>
    refine⟨_,_,i++[x],fM,?_,?_,by simp;omega,hJ4⟩
    ·rw[ao8,aps]
     refine⟨e0.o,by simp,fun a S c hc xr=> ?_⟩;simp at hc;subst hc;have t:=yM.o;unfold leftOf at t;simp at t;rw[<-s.o.seen]at S;rw[xr]at S;exact t.2 (by simpa using S)
    ·unfold KeysOf
     rw[ao8,ao8,L.o];simp[HHX.o]
   case measure=>rw[fM.left,s.o.left];exact sC
theorem ade(F:Fence)(n:Nat)(f:F.fn 164)(g:F.round=none)(l b:Nat)(a i:List PId->World->Prop)(W:World)(j:AbidesFrom W.heap.size a)(p:W.cell? (H b)=some (.map none))(k:a [] W):
  CallsIn F n prog 164 #[.func (.yield l) #[] #[],Z b] W fun e c=>(∃v,e=.returned v)/\((∃d:List PId,d.Perm []/\a d c)\/∃m,True/\i m c):=by
 have q:=run_range_nilMap (P:=prog) W 159 36 57 underlying159;have s:=run_next_nilMap (P:=prog) W 0 0 0 #[];have o:a [] (W.alloc (.mapIter none 0 #[] 0)):=j [] W _ none k (World.grownBy_alloc W _ none) (fun r e=>by cases e);refine callsIn_of_wp func164 rfl f ?_ g;simp only[ntmps164,ap8,apd,apv,Nat.reduceAdd,Nat.reduceSub,aqQ,aqR,aqS,aqT,apN,apC]
 gi_wp2
 gi_loopw [3] (fun _ wr=>wr=W.alloc (.mapIter none 0 #[] 0)) (fun _ _=>0)
 case atStart=>rfl
 case round=>
  subst hrel
  gi_wp2
  go_end0
  exact⟨⟨_,rfl⟩,.inl ⟨[],List.Perm.refl _,o⟩⟩
theorem adf(F:Fence)(n:Nat)(b:F.fn 138)(c:F.round=none)(a:Option Nat)(w:World):
  CallsIn F n prog 138 #[.map a] w fun e d=>e=.returned (.func (.func 164) #[] #[Z w.heap.size])/\d=w.alloc (.cells #[.map a] 159):=by
 refine callsIn_of_wp func138 rfl b ?_ c;simp only[ntmps138,ap8,apd,apv,Nat.reduceAdd,Nat.reduceSub,aqQ,aqR,aqS,aqT,apN,apC]
 gi_wp2
 go_ret
 exact⟨rfl,rfl⟩
theorem adg(F:Fence)(n:Nat)(e:F.fn 164)(f:F.round=none)(m:1<=n)(c:Nat)(v:Option Nat)(d:List (PId×dR))(w:World)(o:w.cell? (H c)=some (.map v))(p:iN w v d):
  SeqStopsK F n prog 164 #[Z c] (fun x=> #[cX x]) KeepsWalks (fun q=>q.Perm (d.map (·.1))) (fun _=>True) d.length w:=by
 intro l a g W h i y r j;have k:=af h o;rcases p with⟨rfl,rfl⟩|⟨b,s,t,rfl,u⟩
 ·exact ade F n e f l c a g W i k j
 ·exact adb F n e f m l c b d s t a g r W i k (u.af h) j
end
section
open Go.RowKit Tryz
attribute [local go_sem] Oper.semAt_some
variable {a b:World}
theorem adh{g:Nat}{l:List Value}(h:∀j u,l[j]?=some u->a.cell? (K g j)=some u):∀j u,l[j]?=some u->a.cell? (((H g):Addr).add j)=some u:=by
 intro j u b;have :((H g):Addr).add j=(K g j):=by unfold Addr.add;split <;>simp_all
 rw[this];exact h j u b
theorem adi(h:KeepsOthers a b):KeepsWalks a b:=
 ⟨h.size,fun k o c d=>h.same k o c (by cases o<;>first |rfl|cases d)⟩
theorem N7{D:Nat}{o c:Obj}(d:b.heap.size<=D)(f:a.heap[D]?=some o):Below b.heap.size a (a.putObj D c):=
 (aoQ _ a).grown (grownBy_putObj' a D c) (by have :=(ao1.1 f).1;omega) (fun k e=>by cases e;exact d)
theorem adj(F:Fence)(n:Nat)(aD:F.fn 180)(E:F.round=none)(hn:2<=n)(g:Nat)(lb:Array Value)(N8:F.fn g)(CA:∀args w,(callFunc g args).run prog w=.ok (.enter g args) w)(S aod:List PId->Prop)(N:Nat)(hN:N<=10000)(w:World)(adk:SeqStopsK F (n-1) prog g lb (fun x=> #[cX x]) KeepsWalks S aod N w):
  CallsIn F n prog 180 #[.slice none 0 0,.func (.func g) #[] lb] w fun e I=>∃v L,e=.returned v/\S L/\gu w.heap.size I v L/\J w I:=by
 have t:1<=n:=by omega
 obtain⟨i0,hi,hz0,hz1,hz2⟩:=info_parts (P:=prog) (e:=36) (z:=.agg #[A 0,A 0]) (size:=2) (bytes:=16) (by kernel_rfl);refine callsIn_of_wp_marks func180 rfl aD ?_ E;simp only[ntmps180,ap8,apd,apv,Nat.reduceAdd,Nat.reduceSub,aqQ,aqR,aqS,aqT,apN,apC]
 gi_wp2
 obtain⟨m,q⟩:∃m,w.alloc (.cells #[.slice none 0 0] 65)=m:=⟨_,rfl⟩;have M:J w m:=by rw[<-q];exact(aoQ _ w).alloc (aoP _) _
 have rH:Boxed m w.heap.size 65 (.slice none 0 0):=by rw[<-q];exact Boxed.new w _ _
 have e4:m.heap.size=w.heap.size+1:=by rw[<-q];simp
 rw[q];refine wpIn_rangeFunc_ownH E t (gf:=g) (lb:=lb) rfl N8 CA adk (fun h k=>h.trans k) ?N9 M (fun _=>rfl)
  (fun d W=>(∃v,Boxed W w.heap.size 65 v/\W.ownsRow w.heap.size 36 2 v d.length (d.flatMap lL)/\True)/\J w W) (fun _ _ _=>False)
  (OwnFrom.and (Own.from (holdsRow_own w.heap.size w.heap.size 65 36 2 (fun d:List PId=>d.length) (fun d=>d.flatMap lL) (fun _ _=>True)) _) (ownFrom_below (aoP _) (by omega)))
  (fun _ _ _ _ _ h _ _=>h) ⟨⟨_,rH,ao9 _ _ _ _,trivial⟩,M⟩
  (fun x u W=>∃b,w.heap.size<b/\W.heap[b]?=some (.cells #[A x.1,A x.2] 36 (0,0))/\u={tmps:= #[.slice none 0 0,.func (.func g) #[] lb,Z w.heap.size,undef,.slice none 0 0,Z b,.func (.func g) #[] lb,cX x,undef,undef,undef,undef,undef],defers:=[]})
  ?hAx ?adl ?adm ?adn ?ado
 case N9=>exact fun W l o o' _ Q _ hw=>KeepsWalks.putObj o' Q hw
 case hAx=>
  intro x u s W cR row h ah R;obtain⟨b,t,y,ak⟩:=h;refine⟨b,t,?_,ak⟩;rw[ah.block b (ao1.1 y).1 (fun e=>by
   obtain⟨_,o,U,B⟩:=R b e.symm;rw[y]at U;cases U;cases B)]
  exact y
 case adl=>
  rintro l d x W a ⟨⟨v,f,j,_⟩,i⟩ p;have C:=i.size;have k2:=f.lt;unfold cX
  gi_wp2
  exact p _ _ ((KeepsOthers.alloc _ _).from _) (KeepsWalks.alloc _ _) ⟨⟨v,f.alloc _,j.alloc _,trivial⟩,i.alloc C _⟩ ⟨W.heap.size,k2,World.alloc_heap_new W _,rfl⟩
 case adm=>
  rintro l d x u W Q ⟨r,R⟩ ⟨⟨v,f,j,_⟩,i⟩ ⟨b,hBx,X,rfl⟩ aE;have B:=f.cell;have C:=i.size;have cr:W.cell? (H b)=some (A x.1):=by simp[World.cell?,X]
  have bx:W.cell? (K b 1)=some (A x.2):=by simp[World.cell?,X]
  gi_wp2_with (gi_at_builtin;refine wpListIn_append_own _ rfl _ _ 65 rfl w.heap.size 36 i0 (.agg #[A 0,A 0]) 2 16 underlying65 hi hz0 hz1 hz2 rfl (by decide) _ _ _ rfl (j.alloc _) (V W 0) 1 1 (lL x) rfl rfl ?kx ?fZ (by unfold maxLen;omega) (by omega) (by simp;omega) ?_;(case kx=>exact adh (JQ (by simp[go_sem]) (by simp[go_sem])));(case fZ=>exact JP);intro v' w1 Y adp _;obtain⟨g',n4,rfl⟩:=ownsRow_succ Y;obtain⟨jW,jR,gh,cF,aU⟩:=f.appended (by decide) j C (aoP _) Y adp;have kx:=jW.cell;have xt:=jW.frozen)
  exact⟨cF.from _,adi cF,⟨⟨_,jR,by rw[aoW,apt];simpa using gh,trivial⟩,i.trans aU⟩⟩
 case adn=>
  rintro D xs W rG bY ⟨⟨v,f,j,_⟩,i⟩ p;have B:=f.cell
  gi_wp2
  refine⟨by simp,.inl ⟨_,_,rfl,run_takeDeferred p,?_⟩⟩;exact⟨_,results_tmp rfl _ _ _,v,xs,rfl,bY,ownsRow_putObj j _ p rfl,i.trans (N7 (by omega) p)⟩
 case ado=>
  intro D c d W _ _ h _;exact h.elim
end
section
open Go.RowKit Tryz
variable {a e l q r u:Nat}{b f s:Value}{d m n:World}{h:Nat->List bw}{i:Nat->Nat->Nat}{j:Nat->Nat->Value}{k:Nat->Value}
theorem Up(k:Nat)(b:k<=1)(w:World):O 182 #[.int .u64 k] w fun e a=>(∃m,e=.returned (A m))/\a=w:=by
 have :k=0\/k=1:=by omega
 rcases this with rfl|rfl
 all_goals go_enter func182,ntmps182
 all_goals go_wp2
 all_goals go_ret
 all_goals exact⟨⟨_,rfl⟩,rfl⟩
theorem adq(a:Option Addr)(k c:Nat)(f:Value)(b:k<=1)(w:World):O 196 #[.slice a k c,A 0,A k,f] w fun e d=>e=.returned (.tuple #[])/\J w d:=by
 have :k=0\/k=1:=by omega
 clear b;rcases this with rfl|rfl
 all_goals go_enter func196,ntmps196
 all_goals go_wp2
 all_goals refine wp_loop_rounds 1 ?_
 all_goals rw[rounds_succ]
 all_goals go_wp2
 all_goals go_end0
 all_goals exact⟨rfl,aoQ _ _⟩
theorem adr(a:Option Addr)(k c:Nat)(d:Int)(f:Value)(b:k<=1)(w:World):O 181 #[.slice a k c,A 0,A k,A d,f] w fun e g=>e=.returned (.tuple #[])/\J w g:=by
 have h:=aa (adq a k c f b w);have :k=0\/k=1:=by omega
 clear b;rcases this with rfl|rfl
 all_goals go_enter func181,ntmps181
 all_goals go_wp2_with fail
 all_goals refine wp_loop_rounds 1 ?_
 all_goals rw[rounds_succ]
 all_goals go_wp2_with fail
 all_goals refine h.o.mono ?_
 all_goals rintro e j ⟨rfl,i⟩
 all_goals go_wp2
 all_goals exact bodyPost_ret (v:=.tuple #[]) (by simp[results,results181,go_sem]) rfl ⟨rfl,i⟩
theorem ads(a:Option Addr)(k c:Nat)(f:Value)(b:k<=1)(w:World):O 163 #[.slice a k c,f] w fun e g=>e=.returned (.tuple #[])/\J w g:=by
 have h:=aa (Up k b w);have i:=aa (fun d=>adr a k c d f b w);have :k=0\/k=1:=by omega
 clear b;rcases this with rfl|rfl
 all_goals go_enter func163,ntmps163
 all_goals go_wp2_with fail
 all_goals refine h.o.mono ?_
 all_goals rintro e l ⟨⟨d,rfl⟩,rfl⟩
 all_goals go_wp2_with fail
 all_goals refine(i.o d).mono ?_
 all_goals rintro e m ⟨rfl,j⟩
 all_goals go_wp2
 all_goals go_end0
 all_goals exact⟨rfl,j⟩
structure Apart (N:Nat) (aV:Nat->Value) (cp:Nat->Nat->Value):Prop where
 ops:∀i j,i<N->j<N->i≠j->(aV i).ownBlock=none\/(aV i).ownBlock≠(aV j).ownBlock
 has:∀c b2,c<N->b2<N->c≠b2->(cp c 0).ownBlock≠(cp b2 0).ownBlock
def upd {α:Type} (f:Nat->α) (c:Nat) (x:α):Nat->α:=fun i=>if i=c then x else f i
theorem bN {α:Type} (f:Nat->α) (c:Nat) (x:α):upd f c x c=x:=by simp[upd]
theorem ck {α:Type} (f:Nat->α) (x:α) (h:a≠e):upd f e x a=f a:=by simp[upd,h]
theorem Ks {α β:Type} (f:Nat->α) (g:α->β) (c:Nat) (x:α) (N:Nat):(List.range N).map (fun i=>g (upd f c x i))=((List.range N).map fun i=>g (f i)).set c (g x):=by
 apply ap6;intro j;rw[arf];by_cases a:c=j
 ·subst a
  by_cases b:c<N<;>simp[b,upd]
 ·by_cases b:j<N
  ·simp[b,a,upd,ao5 a]
  ·simp[b,a]
theorem e2.add{w}{W:World}(m:e2 w r q b f s k h j i)(E:Apart q k j)(N:a<q){gO gH:Nat}(hgO:b.ownBlock=some gO)(Uq:(j a 0).ownBlock=some gH){v':Value}{o:bw}(hq:W.ownsRow 0 255 1 b q (((List.range q).map k).set a v'))(hH:W.ownsRow 0 3 1 (j a 0) q (((List.range q).map fun c=>A (i a c)).set a (A ((i a a:Int)+1))))(aH:W.ownsRow 0 233 15 v' ((h a).length+1) ((h a++[o]).flatMap lP))(ae:er W o.dq o.p.old)(yN:∀(g:Nat) (F:Array Value),w.heap[g]?=some (.cells F 36 (0,0))->W.heap[g]?=w.heap[g]?)(X:∀t,t<w.heap.size->t≠gO->t≠gH->some t≠(k a).ownBlock->W.heap[t]?=w.heap[t]?)(c6:iT w (k a) v')(Aw:(h a).length<60)(oJ:i a a=(h a).length):
  e2 W r q b f s (upd k a v') (upd h a (h a++[o])) j (fun d c=>if d=a/\c=a then i a a+1 else i d c)/\Apart q (upd k a v') j:=by
 have od:r<w.heap.size:=(ao1.1 m.aI).1;obtain⟨p1,Y⟩:=bt m.hq hgO;obtain⟨nf,EF⟩:=bt (m.hH a N) Uq;have ky:∀(t:Nat) (I:Array Value) (e:TypeId),w.heap[t]?=some (.cells I e (0,0))->e≠255->e≠3->e≠233->W.heap[t]?=w.heap[t]?:=by
  intro t I e R L h2 ak;refine X t (ao1.1 R).1 ?_ ?_ ?_
  ·intro x;subst x;exact L (bz R Y)
  ·intro x;subst x;exact h2 (bz R EF)
  ·intro x;obtain⟨b2,b7⟩:=bt (m.dZ a N).1 x.symm;exact ak (bz R b7)
 have Ur:∀{u:Value} {l:List PId},er w u l->er W u l:=by
  intro u l P;refine⟨P.1,?_⟩;rcases P.2 with B|⟨g,cap,F,aj,D,z,rest⟩
  ·exact .inl B
  ·exact .inr ⟨g,cap,F,aj,D,by rw[yN g F z];exact z,rest⟩
 have fb:∀{e:TypeId} {size:Nat} {u:Value} {n:Nat} {xs:List Value},w.ownsRow 0 e size u n xs->(∀g,u.ownBlock=some g->W.heap[g]?=w.heap[g]?)->W.ownsRow 0 e size u n xs:=by
  intro e size u n xs P z;refine⟨P.1,?_⟩;rcases P.2 with B|⟨g,cap,F,rfl,D,oa,rest⟩
  ·exact .inl B
  ·exact .inr ⟨g,cap,F,rfl,D,by rw[z g rfl];exact oa,rest⟩
 refine⟨⟨?_,m.hN,?_,?_,?_,?_,?_,?_⟩,?_⟩
 ·rw[ky r _ _ m.aI (by decide) (by decide) (by decide)];exact m.aI
 ·have :=Ks k id a v' q
  simp only[id]at this;rw[show(List.range q).map (upd k a v')=(List.range q).map (fun c=>upd k a v' c) from rfl,this];exact hq
 ·intro c y
  by_cases e:c=a
  ·subst e
   rw[bN,bN];refine⟨by rw[aoW];exact aH,fun o' fY=> ?_⟩;rcases aoZ.1 fY with L|L
   ·exact Ur ((m.dZ c y).2 o' L)
   ·simp at L;subst L;exact ae
  ·rw[ck _ _ e,ck _ _ e]
   refine⟨fb (m.dZ c y).1 (fun g z=> ?_),fun o' fY=>Ur ((m.dZ c y).2 o' fY)⟩;obtain⟨I,C⟩:=bt (m.dZ c y).1 z;refine X g (ao1.1 C).1 ?_ ?_ ?_
   ·intro x;subst x;exact absurd (bz C Y) (by decide)
   ·intro x;subst x;exact absurd (bz C EF) (by decide)
   ·intro x
    rcases E.ops c a y N e with Q|Q
    ·rw[Q]at z;cases z
    ·exact Q (by rw[z,x])
 ·exact fb m.fx (fun g z=>by obtain⟨I,C⟩:=bt m.fx z;exact ky g I _ C (by decide) (by decide) (by decide))
 ·intro d M
  by_cases e:d=a
  ·subst e
   have aw:(List.range q).map (fun c=>A ((if d=d/\c=d then i d d+1 else i d c:Nat):Int))=((List.range q).map fun c=>A (i d c)).set d (A ((i d d:Int)+1)):=by
    have :=Ks (fun c=>i d c) (fun n=>A (n:Int)) d (i d d+1) q;rw[show((i d d:Int)+1)=((i d d+1:Nat):Int) by omega,<-this];apply aqq;intro c _;simp[upd]
   rw[aw];exact hH
  ·have aw:(List.range q).map (fun c=>A ((if d=a/\c=a then i a a+1 else i d c:Nat):Int))=(List.range q).map fun c=>A (i d c):=by
    apply aqq;intro c _;simp[e]
   rw[aw];refine fb (m.hH d M) (fun g z=> ?_);obtain⟨I,C⟩:=bt (m.hH d M) z;refine X g (ao1.1 C).1 ?_ ?_ ?_
   ·intro x;subst x;exact absurd (bz C Y) (by decide)
   ·intro x;subst x;exact E.has d a M N e (by rw[z,Uq])
   ·intro x;obtain⟨b2,b7⟩:=bt (m.dZ a N).1 x.symm;exact absurd (bz C b7) (by decide)
 ·intro d c M y
  by_cases e:c=a
  ·subst e
   rw[bN,aoW];have :=m.hle d c M y;split
   ·simp;omega
   ·simp;omega
  ·rw[ck _ _ e]
   rw[if_neg (by intro Q;exact e Q.2)];exact m.hle d c M y
 ·intro c y
  by_cases e:c=a
  ·subst e;rw[bN,aoW];simp;omega
  ·rw[ck _ _ e];exact m.hsz c y
 ·refine⟨fun c v y S U=> ?_,E.has⟩
  have aE:∀c,c<q->∀g,(k c).ownBlock=some g->g<w.heap.size:=fun c y g z=>(aoT (m.dZ c y).1 g z).2
  by_cases nI:c=a
  ·subst nI
   rw[bN,ck _ _ (ao5 U)];rcases c6 with B|B
   ·rw[B];exact E.ops c v y S U
   ·cases D:v'.ownBlock with
    |none=>exact .inl rfl
    |some g=>right;intro e;have :=aE v S g e.symm;have :=B g D;omega
  ·by_cases rA:v=a
   ·subst rA
    rw[bN,ck _ _ nI];rcases c6 with B|B
    ·rw[B];exact E.ops c v y S U
    ·cases D:(k c).ownBlock with
     |none=>exact .inl rfl
     |some g=>right;intro e;have :=aE c y g D;have :=B g e.symm;omega
   ·rw[ck _ _ nI,ck _ _ rA];exact E.ops c v y S U
def nj (l:List bw):Int:=l.foldl (fun m o=>if m<o.p.id.1 then o.p.id.1 else m) 0
theorem Us{l:List bw}(h:a<l.length):nj (l.take (a+1))=if nj (l.take a)<l[a].p.id.1 then l[a].p.id.1 else nj (l.take a):=by
 unfold nj;rw[aph h,apX];rfl
theorem Ut(l:List bw)(h:∀o∈l,o.p.id.1<=1000000):∀k,k<=l.length->0<=nj (l.take k)/\nj (l.take k)<=1000000
 |0,_=>by simp[nj]
 |k+1,a=>by
  have :=Ut l h k (by omega);have :=h l[k] (aoY _);rw[Us (by omega)];split <;>omega
theorem iW{w:World}{base:Nat}{e:TypeId}{size:Nat}{c:List Value}(h:w.ownsRow base e size b a c){g o:Nat}(d:b.ownBlock≠some g)(u:Value):(w.setCell (K g o) u).ownsRow base e size b a c:=by
 refine⟨h.1,?_⟩;rcases h.2 with f|⟨i,j,k,rfl,l,m,rest⟩
 ·exact .inl f
 ·exact .inr ⟨i,j,k,rfl,l,by rw[apj _ _ _ _ (by intro e;exact d (congrArg some e))];exact m,rest⟩
theorem Uu{f:Option Nat}{base:Nat}{e:TypeId}{size:Nat}{i:List Value}(h:d.ownsRow base e size b a i)(k:d.grownBy m f)(l:∀g,b.ownBlock=some g->some g≠f):m.ownsRow base e size b a i:=by
 refine⟨h.1,?_⟩;rcases h.2 with n|⟨c,o,p,rfl,q,j,rest⟩
 ·exact .inl n
 ·exact .inr ⟨c,o,p,rfl,q,by rw[k.block c (ao1.1 j).1 (l c rfl)];exact j,rest⟩
theorem adt{i:Array Oper}{o:Oper}{a:Act}{b:Act->World->Prop}{Q:Exit->Act->World->Prop}{E:Prop}(k:o.guard=none)(s x:Operand)(m:o.op=.call {callee:=.builtin .append,args:= #[s,x],argTypes:= #[255,255]})(v:Value)(l:List bw)(n:a.eval s=v)(p:d.ownsRow 0 233 15 v l.length (l.flatMap lP))(g c:Nat)(y:bw)(q:a.eval x=.slice (some (H g)) 1 c)(r:∀j u,(lP y)[j]?=some u->d.cell? (K g j)=some u)(t:∀u∈lP y,u.oneCell'=true)(w:l.length<100000)(h:∀e f,f.ownsRow 0 233 15 e (l.length+1) ((l++[y]).flatMap lP)->d.grownBy f v.ownBlock->iT d v e->b (a.put o.dst e) f):
  if Region.wanted o (yielded i a.tmps)=true then Oper.wp prog o a d b Q else E:=
 xi lP 15 144 255 233 (.agg #[A 0,A 0,A 0,.bool false,A 0,A 0,.string ⟨#[]⟩,A 0,A 0,A 0,A 0,A 0,A 0,A 0,.slice none 0 0]) (by kernel_rfl) underlying255 rfl (by omega) (fun _=>rfl)
  k s x m 0 v l n p g c y q r t (by omega) (by unfold maxLen;omega) (aoR _) h
theorem e2.adu(c:e2 d q e (.slice (some (H l)) e r) b f k h j i)(g:a<e):d.cell? (K l a)=some (k a):=by
 rw[c.hq.cellAt a (by omega)];simp[g]
theorem e2.adv{g}(c:e2 d q e s (.slice (some (H l)) e r) b g h j i)(m:a<e):d.cell? (K l (a*4))=some (j a 0):=by
 have :=iw (f:=fun a=>[j a 0,j a 1,j a 2,j a 3]) (k:=4) (fun _=>rfl) c.fx (by simp) a (by simpa using m) 0 (by omega);rw[apL]at this;rw[this];simp
theorem e2.adw(c:e2 d r a s b f k h j i)(m:e<a)(g:j e 0=.slice (some (H q)) a u)(n:l<a):d.cell? (K q l)=some (A (i e l)):=by
 have :=c.hH e m;rw[g]at this;rw[this.cellAt l (by omega)];simp[n]
theorem adx{o:bw}:∀j u,(lP o)[j]?=some u->(d.alloc (.cells #[A o.p.id.1,A o.p.id.2,A o.p.kind,.bool o.p.list,A o.p.object.1,A o.p.object.2,.string o.p.key,A o.p.element.1,A o.p.element.2,A o.p.behind.1,A o.p.behind.2,A o.p.num,A o.p.obj.1,A o.p.obj.2,o.dq] 233)).cell? (V d j)=some u:=by
 intro j u a;rw[arj _ _ _ _ rfl];rw[<-a];simp[lP]
def ady (e:World) (o:bw) (d:Value) (l:List bw) (f c:Nat) (wc:World):Prop:=
 ∃W a b,J e W/\W.grownBy a d.ownBlock/\iT W d b/\a.ownsRow 0 233 15 b (l.length+1) ((l++[o]).flatMap lP)/\wc=a.setCell (K f c) b
theorem Uv(c:J d m)(h:m.grownBy n b.ownBlock)(g:a<d.heap.size)(i:a≠e)(j:some a≠b.ownBlock):(n.setCell (K e l) f).heap[a]?=d.heap[a]?:=by
 rw[apj _ _ _ _ i,h.block a (aoV g c.size) j,c.block a g]
theorem CB{v':Value}{gO c:Nat}(h:J d m)(i:m.grownBy n b.ownBlock)(g:d.cell? (K e l)=some f)(j:e≠gO)(k:some e≠b.ownBlock):(n.setCell (K gO c) v').cell? (K e l)=some f:=by
 rw[apW (w:=d) (a:=(K e l)) (Uv h i (ao4 d _ g) j k)];exact g
theorem Uw{v':Value}{gO c:Nat}(f:J d m)(g:m.grownBy n b.ownBlock)(h:e<d.heap.size)(i:d.frozen? (K e l)=false)(j:e≠gO)(k:some e≠b.ownBlock):(n.setCell (K gO c) v').frozen? (K e l)=false:=by
 rw[arn (w:=d) (a:=(K e l)) (Uv f g h j k)];exact i
theorem adz{v'}{W:World}{gO gH:Nat}{u0 u1:Value}{o:bw}(t:e2 d r e (.slice (some (H gO)) e q) b f k h j i)(au:Apart e k j)(I:a<e)(E:j a 0=.slice (some (H gH)) e u)(X:J d n)(fj:J n W)(B:W.grownBy m (k a).ownBlock)(oL:iT W (k a) v')(R:m.ownsRow 0 233 15 v' ((h a).length+1) ((h a++[o]).flatMap lP))(Y:er d o.dq o.p.old)(ab:d.heap.size<=l)(Kt:v'.ownBlock≠some l)(Aw:(h a).length<60)(oJ:i a a=(h a).length):
  iT d (k a) v'/\e2 ((((m.setCell (K gO a) v').setCell (K gH a) (A ((i a a:Int)+1))).setCell (H l) u0).setCell (K l 1) u1) r e (.slice (some (H gO)) e q) b f (upd k a v') (upd h a (h a++[o])) j (fun w v=>if w=a/\v=a then i a a+1 else i w v)/\
   Apart e (upd k a v') j/\m.os=d.os/\m.tape=d.tape/\m.output=d.output/\d.heap.size<=m.heap.size/\
   (∀s,s<d.heap.size->s≠gO->s≠gH->some s≠(k a).ownBlock->((((m.setCell (K gO a) v').setCell (K gH a) (A ((i a a:Int)+1))).setCell (H l) u0).setCell (K l 1) u1).heap[s]?=d.heap[s]?):=by
 have z:J d W:=X.trans (fj.mono X.size);obtain⟨aoe,C⟩:=bt t.hq (g:=gO) rfl;obtain⟨Oa,D⟩:=bt (t.hH a I) (g:=gH) (by rw[E];rfl);have Ux:gO<d.heap.size:=(ao1.1 C).1;have Uy:gH<d.heap.size:=(ao1.1 D).1;have Ob:gO≠gH:=by intro c;subst c;exact absurd (bz C D) (by decide)
 have F:∀(g:Nat) (N:Array Value) (c:TypeId) (x:Nat×Nat),d.heap[g]?=some (.cells N c x)->c≠233->some g≠(k a).ownBlock:=fun g N c x y he e'=>by
  obtain⟨Ku,xu⟩:=bt (t.dZ a I).1 e'.symm;exact he (bz y xu)
 have P:∀s,s<d.heap.size->s≠gO->s≠gH->some s≠(k a).ownBlock->((((m.setCell (K gO a) v').setCell (K gH a) (A ((i a a:Int)+1))).setCell (H l) u0).setCell (K l 1) u1).heap[s]?=d.heap[s]?:=by
  intro s S Q U ak;rw[apj _ _ _ _ (by show s≠l;omega),apj _ _ _ _ (by show s≠l;omega),apj _ _ _ _ U,apj _ _ _ _ Q,B.block s (by have :=z.size;omega) ak,z.block s S]
 have c6:iT d (k a) v':=by
  rcases oL with L|L
  ·exact .inl L
  ·exact .inr fun s S=>by have :=L s S;have :=z.size;omega
 have hbv:∀g,(k a).ownBlock=some g->g<d.heap.size:=fun g y=>(aoT (t.dZ a I).1 g y).2
 have Oc:v'.ownBlock≠some gO:=by
  intro c;obtain⟨N,M⟩:=bt R c;rw[B.block gO (by have :=z.size;omega) (F gO _ _ _ C (by decide)),z.block gO Ux]at M;exact absurd (bz C M) (by decide)
 have Ax:v'.ownBlock≠some gH:=by
  intro c;obtain⟨N,M⟩:=bt R c;rw[B.block gH (by have :=z.size;omega) (F gH _ _ _ D (by decide)),z.block gH Uy]at M;exact absurd (bz D M) (by decide)
 have Ay:m.ownsRow 0 255 1 (.slice (some (H gO)) e q) e ((List.range e).map k):=Uu (c5 t.hq z) B (fun g y=>by
  have c:g=gO:=by simp[Value.ownBlock]at y;exact y.symm
  rw[c];exact F gO _ _ _ C (by decide))
 have hH3:m.ownsRow 0 3 1 (j a 0) e ((List.range e).map fun v=>A (i a v)):=Uu (c5 (t.hH a I) z) B (fun g y=>by
  have c:g=gH:=by rw[E]at y;simp[Value.ownBlock]at y;exact y.symm
  rw[c];exact F gH _ _ _ D (by decide))
 have key:=e2.add (W:=(((m.setCell (K gO a) v').setCell (K gH a) (A ((i a a:Int)+1))).setCell (H l) u0).setCell (K l 1) u1) (gO:=gO) (gH:=gH) (v':=v') (o:=o) t au I rfl (by rw[E];rfl) ?_ ?_ ?_ ?_ ?_ P c6 Aw oJ
 ·exact⟨c6,key.1,key.2,B.os.trans z.os,B.tape.trans z.tape,B.output.trans z.output,by have :=B.size;have :=z.size;omega,P⟩
 ·refine iW (iW (iW (arl Ay a v').1 ?_ _) ?_ _) ?_ _<;>(intro c;simp[Value.ownBlock]at c;omega)
 ·have Q:=iW (o:=a) hH3 (g:=gO) (by rw[E];intro c;simp[Value.ownBlock]at c;omega) v'
  have U:((m.setCell (K gO a) v').setCell (K gH a) (A ((i a a:Int)+1))).ownsRow 0 3 1 (j a 0) e (((List.range e).map fun v=>A (i a v)).set a (A ((i a a:Int)+1))):=by
   rw[E]at Q⊢;exact(arl Q a _).1
  refine iW (iW U ?_ _) ?_ _<;>(rw[E];intro c;simp[Value.ownBlock]at c;omega)
 ·exact iW (iW (iW (iW R Oc _) Ax _) Kt _) Kt _
 ·refine⟨Y.1,?_⟩
  rcases Y.2 with L|⟨g,cap,cur,aj,di,y,rest⟩
  ·exact .inl L
  ·refine .inr ⟨g,cap,cur,aj,di,?_,rest⟩
   rw[P g (ao1.1 y).1 (by intro c;subst c;exact absurd (bz y C) (by decide)) (by intro c;subst c;exact absurd (bz y D) (by decide)) (F g _ _ _ y (by decide))];exact y
 ·intro g cur y
  exact P g (ao1.1 y).1 (by intro c;subst c;exact absurd (bz y C) (by decide)) (by intro c;subst c;exact absurd (bz y D) (by decide)) (F g _ _ _ y (by decide))
theorem adA{N}(h:e2 d l e b f s k N j i)(au:Apart e k j)(c:Nat)(E:c<e)(Aw:(N c).length<60)(oJ:i c c=(N c).length)(uH:∀o∈iV N (i c) e,o.p.id.1<=1000000)(i1 i2 kind Y dP aj aw eN eB n v1 v2:Int)(aO:Bool)(key:ByteArray)(dq:Value)(R:List PId)(hold:er d dq R):
  O 145 #[Z l,A c,.agg #[A i1,A i2,A kind,.bool aO,A Y,A dP,.string key,A aj,A aw,A eN,A eB,A n,A v1,A v2,dq]] d fun r w'=>
   r=.returned (.agg #[A (nj (iV N (i c) e)+1),A c])/\∃v',iT d (k c) v'/\
    e2 w' l e b f s (upd k c v') (upd N c (N c++[⟨⟨(nj (iV N (i c) e)+1,c),kind,aO,(Y,dP),key,(aj,aw),(eN,eB),n,(v1,v2),R⟩,dq⟩])) j (fun x w=>if x=c/\w=c then i c c+1 else i x w)/\
    Apart e (upd k c v') j/\w'.os=d.os/\w'.tape=d.tape/\w'.output=d.output/\d.heap.size<=w'.heap.size/\
    (∀q,q<d.heap.size->some q≠b.ownBlock->some q≠(j c 0).ownBlock->some q≠(k c).ownBlock->w'.heap[q]?=d.heap[q]?):=by
 obtain⟨gO,p1,c8,eX,rfl,rfl,ED,EE,Kf,Kg⟩:=h.row (by omega);obtain⟨P,nf,eP,EF,Kh⟩:=h.Cp E;obtain⟨jn,co,rfl,_,_,_⟩:=bp hold;have hN:=h.hN;have Uz:=Ke N (i c) e (fun w hi=>h.hsz w hi);have S:=aa h;clear h;have bR:=aa au;clear au;have tE:=aa hold;clear hold;clear Kf Kg Kh;have yO:=aa eP;clear eP;have adB:=aa oJ;clear oJ;have p6:=aa (Ut (iV N (i c) e) uH);clear uH;generalize UA:iV N (i c) e=CC at *;have vM:=aa UA;clear UA;generalize UB:nj CC=CD;have UC:=aa UB;clear UB;go_enter func145,ntmps145;go_wp2_with fail
 have a1:Hq (J d ((d.alloc (.cells #[A i1,A i2,A kind,.bool aO,A Y,A dP,.string key,A aj,A aw,A eN,A eB,A n,A v1,A v2,.slice jn R.length co] 233)).alloc (.cells #[A 0,A 0] 36))):=((aoQ _ d).alloc (aoP _) _).alloc (by simp) _;refine(TG (S.o.af a1.o) c E).mono ?_;rintro r w1 ⟨v,rfl,dZ,B⟩;rw[vM.o]at dZ;have L:=af (a:=(V d 0)) (v:=A i1) B (by simp[go_sem]);have M:=af (a:=(V d 1)) (v:=A i2) B (by simp[go_sem]);have kM:=af (a:=(V d 2)) (v:=A kind) B (by simp[go_sem]);have mJ:=af (a:=(V d 3)) (v:=.bool aO) B (by simp[go_sem]);have qM:=af (a:=(V d 4)) (v:=A Y) B (by simp[go_sem]);have Kv:=af (a:=(V d 5)) (v:=A dP) B (by simp[go_sem]);have Cj:=af (a:=(V d 6)) (v:=.string key) B (by simp[go_sem]);have Kw:=af (a:=(V d 7)) (v:=A aj) B (by simp[go_sem]);have Kx:=af (a:=(V d 8)) (v:=A aw) B (by simp[go_sem]);have Ky:=af (a:=(V d 9)) (v:=A eN) B (by simp[go_sem]);have Kz:=af (a:=(V d 10)) (v:=A eB) B (by simp[go_sem]);have Es:=af (a:=(V d 11)) (v:=A n) B (by simp[go_sem]);have Et:=af (a:=(V d 12)) (v:=A v1) B (by simp[go_sem]);have Eu:=af (a:=(V d 13)) (v:=A v2) B (by simp[go_sem]);have xf:=af (a:=(V d 14)) (v:=.slice jn R.length co) B (by simp[go_sem]);have z0:=af (a:=(H (d.heap.size+1))) (v:=A 0) B (by simp[go_sem]);have z1:=af (a:=(K (d.heap.size+1) 1)) (v:=A 0) B (by simp[go_sem]);have fz0:∀t,w1.frozen? (V d t)=false:=fun t=>by rw[B.frozen (p:=(V d t)) (by simp;omega)];simp[go_sem]
 have UD:∀t,w1.frozen? (K (d.heap.size+1) t)=false:=fun t=>by rw[B.frozen (p:=(K (d.heap.size+1) t)) (by simp)];simp[go_sem]
 have hz1:d.heap.size+2<=w1.heap.size:=by have :=B.size;simp at this;omega
 have mh:J d w1:=a1.o.trans (B.mono (by simp;omega));have dr:=aa mh;clear mh B a1;obtain⟨aX,lc,rfl,jk,Az,EM⟩:=bp dZ.1;unfold maxLen at Az;have NT:=aa dZ;clear dZ;have vR:=aa EM;clear EM;go_wp2;go_loop [8,9] (fun m w=>∃q:Nat,q<=CC.length/\w=A q/\m=A (nj (CC.take q))) (fun _ w=>CC.length-(intOf w).toNat)
 case atStart=>exact⟨0,aoR _,rfl,rfl⟩
 case round=>
  obtain⟨q,hk,rfl,rfl⟩:=hrel;by_cases aE:q<CC.length
  ·obtain⟨g,rfl⟩:=vR.o q aE
   have c7:=kt.cell NT.o rfl q aE 0 (by omega);simp only[lP,aqb,apL]at c7;have UE:=aa (Us aE);by_cases lu:nj (CC.take q)<CC[q].p.id.1
   ·go_wp2
    go_round
    case rel=>exact⟨q+1,by omega,by go_num,by rw[UE.o,if_pos lu]⟩
    case measure=>simp[intOf];omega
   ·go_wp2
    go_round
    case rel=>exact⟨q+1,by omega,by go_num,by rw[UE.o,if_neg lu]⟩
    case measure=>simp[intOf];omega
  ·have CE:=p6.o q hk
   rw[apc (by omega)]at CE;rw[apc (by omega)];rw[UC.o]at CE;rw[UC.o];go_wp2;obtain⟨z,C⟩:∃z,z=(w1.setCell (V d 0) (A (CD+1))).setCell (V d 1) (A c):=⟨_,rfl⟩;rw[<-C];have jS:z.cell? (V d 0)=some (A (CD+1)):=by rw[C];simp[go_sem,L,L,M]
   have q1:z.cell? (V d 1)=some (A c):=by rw[C];simp[go_sem,M,L,M]
   have kz:z.cell? (V d 2)=some (A kind):=by rw[C];simp[go_sem,kM,L,M]
   have xk:z.cell? (V d 3)=some (.bool aO):=by rw[C];simp[go_sem,mJ,L,M]
   have GR:z.cell? (V d 4)=some (A Y):=by rw[C];simp[go_sem,qM,L,M]
   have xv:z.cell? (V d 5)=some (A dP):=by rw[C];simp[go_sem,Kv,L,M]
   have UF:z.cell? (V d 6)=some (.string key):=by rw[C];simp[go_sem,Cj,L,M]
   have UG:z.cell? (V d 7)=some (A aj):=by rw[C];simp[go_sem,Kw,L,M]
   have UH:z.cell? (V d 8)=some (A aw):=by rw[C];simp[go_sem,Kx,L,M]
   have UI:z.cell? (V d 9)=some (A eN):=by rw[C];simp[go_sem,Ky,L,M]
   have UJ:z.cell? (V d 10)=some (A eB):=by rw[C];simp[go_sem,Kz,L,M]
   have UK:z.cell? (V d 11)=some (A n):=by rw[C];simp[go_sem,Es,L,M]
   have UL:z.cell? (V d 12)=some (A v1):=by rw[C];simp[go_sem,Et,L,M]
   have UM:z.cell? (V d 13)=some (A v2):=by rw[C];simp[go_sem,Eu,L,M]
   have UN:z.cell? (V d 14)=some (.slice jn R.length co):=by rw[C];simp[go_sem,xf,L,M]
   have y0:z.cell? (H (d.heap.size+1))=some (A 0):=by rw[C];simp[go_sem,z0]
   have y1:z.cell? (K (d.heap.size+1) 1)=some (A 0):=by rw[C];simp[go_sem,z1]
   have mI:∀t,z.frozen? (K (d.heap.size+1) t)=false:=fun t=>by rw[C];simp[go_sem,UD]
   have aU:J d z:=by rw[C];exact(dr.o.setCell (aoP _) _).setCell (aoP _) _
   have hz2:d.heap.size+2<=z.heap.size:=by rw[C];simpa[World.setCell]using hz1
   clear C L M kM mJ qM Kv Cj Kw Kx Ky Kz Es Et Eu xf z0 z1 fz0 UD;have D:=aa (S.o.af aU);have a6:=D.o.a6;have bd:=D.o.bd;have Od:=D.o.adu E;have Oe:=D.o.adv E;have KA:=D.o.adw E yO.o E;rw[yO.o]at Oe;obtain⟨bX,bQ,vS,_,_,_⟩:=bp (D.o.dZ c E).1;rw[vS]at Od;have UO:=aa vS;clear vS;have od:l<d.heap.size:=(ao1.1 S.o.aI).1;have Ux:gO<d.heap.size:=(aoT S.o.hq gO rfl).2;have Of:c8<d.heap.size:=(aoT S.o.fx c8 rfl).2;have Uy:P<d.heap.size:=(aoT (S.o.hH c E) P (by rw[yO.o];rfl)).2;obtain⟨aoe,tJ⟩:=bt D.o.hq (g:=gO) rfl;obtain⟨aoE,KB⟩:=bt D.o.fx (g:=c8) rfl;obtain⟨Oa,tK⟩:=bt (D.o.hH c E) (g:=P) (by rw[yO.o];rfl);have hOr:gO≠l:=by intro r;subst r;exact absurd (bz tJ D.o.aI) (by decide)
   have hOC:gO≠c8:=by intro r;subst r;exact absurd (bz tJ KB) (by decide)
   have Ob:gO≠P:=by intro r;subst r;exact absurd (bz tJ tK) (by decide)
   have hHr:P≠l:=by intro r;subst r;exact absurd (bz tK D.o.aI) (by decide)
   have hHC:P≠c8:=by intro r;subst r;exact absurd (bz tK KB) (by decide)
   have GS:Hq (∀(g:Nat) (cs:Array Value) (r:TypeId) (y:Nat×Nat),z.heap[g]?=some (.cells cs r y)->r≠233->some g≠(k c).ownBlock):=fun g cs r y ah he e'=>by
    obtain⟨Ku,xu⟩:=bt (D.o.dZ c E).1 e'.symm;exact he (bz ah xu)
   have yH:=aa (And.intro tJ (And.intro KB tK));clear tJ KB tK;have bf:=aa aU;clear aU;have p7:=D.o.hle c c E E;have hsz:=D.o.hsz c E;have p8:z.frozen? (K gO c)=false:=aq4 D.o.hq c;have qN:z.frozen? (K P c)=false:=by have :=D.o.hH c E;rw[yO.o]at this;exact aq4 this c
   have amX:gO<z.heap.size:=by omega
   have adC:l<z.heap.size:=by omega
   have adD:d.heap.size<z.heap.size:=by omega
   have UP:=aa (GS.o gO _ _ _ yH.o.1 (by decide));have oM:=aa (GS.o l _ _ _ D.o.aI (by decide));go_cut [52] (fun _ wc=>ady z ⟨⟨(CD+1,c),kind,aO,(Y,dP),key,(aj,aw),(eN,eB),n,(v1,v2),R⟩,.slice jn R.length co⟩ (k c) (N c) gO c wc)
   case first =>
    go_region_law (refine adt rfl (.tmp 49) (.tmp 51) rfl (.slice bX (N c).length bQ) (N c) (by simp[Act.eval,Act.put]) ?h1 z.heap.size 1 ⟨⟨(CD+1,c),kind,aO,(Y,dP),key,(aj,aw),(eN,eB),n,(v1,v2),R⟩,.slice jn R.length co⟩ (by simp[Act.eval,Act.put]) ?h2 ?ak ?aL ?_;(case h1=>rw[<-UO.o];exact(D.o.dZ c E).1.alloc _);(case h2=>exact adx);(case ak=>exact fun u hu=>by simp[lP]at hu;rcases hu with rfl|rfl|rfl|rfl|rfl|rfl|rfl|rfl|rfl|rfl|rfl|rfl|rfl|rfl|rfl<;>rfl);(case aL=>omega);intro v' U fW F oL;rw[<-UO.o]at F oL;have I:J z (z.alloc (.cells #[A (CD+1),A c,A kind,.bool aO,A Y,A dP,.string key,A aj,A aw,A eN,A eB,A n,A v1,A v2,.slice jn R.length co] 233)).drew:=((aoQ _ z).alloc (aoP _) _).drew;have hg:=aa (And.intro I (And.intro F (And.intro oL fW)));obtain⟨a3,bV,jI,_,_,_⟩:=bp fW;subst jI;have kO':U.cell? (K gO c)=some (.slice bX (N c).length bQ):=F.cell (af I Od) UP.o;have fO':U.frozen? (K gO c)=false:=(arn (a:=(K gO c)) (F.block gO (by have :=I.size;omega) UP.o)).trans ((I.frozen (p:=(K gO c)) (by show gO<_;omega)).trans p8);have KC:U.cell? (K l 1)=some (.slice (some (H gO)) e p1):=F.cell (af I a6) oM.o;clear oL fW I F)
    all_goals(go_wp2_with fail;go_meet)
    all_goals exact⟨_,U,_,hg.o.1,hg.o.2.1,hg.o.2.2.1,hg.o.2.2.2,rfl⟩
   case rest=>
    obtain⟨W,U,v',I,F,oL,fW,Q⟩:=hcut;have HNr:=aa (GS.o l _ _ _ D.o.aI (by decide));have Og:=aa (GS.o c8 _ _ _ yH.o.2.1 (by decide));have KD:=aa (GS.o P _ _ _ yH.o.2.2 (by decide));have sD:∀g,(k c).ownBlock=some g->g<d.heap.size:=fun g ah=>(aoT (S.o.dZ c E).1 g ah).2
    have pr:=aa (show ∀q,d.heap.size<=q->some q≠(k c).ownBlock from fun q hk r=>by have :=sD q r.symm;omega);have d2:=CB (c:=c) (v':=v') (gO:=gO) I F bd hOr.symm HNr.o;rw[<-Q]at d2;have aof:=CB (c:=c) (v':=v') (gO:=gO) I F Oe hOC.symm Og.o;rw[<-Q]at aof;have aog:=CB (c:=c) (v':=v') (gO:=gO) I F KA Ob.symm KD.o;rw[<-Q]at aog;have aoF:wc.frozen? (K P c)=false:=by rw[Q];exact Uw I F (by omega) qN Ob.symm KD.o
    have t0:=CB (c:=c) (v':=v') (gO:=gO) I F jS (by omega) (pr.o _ (by omega));rw[<-Q]at t0;have t1:=CB (c:=c) (v':=v') (gO:=gO) I F q1 (by omega) (pr.o _ (by omega));rw[<-Q]at t1;have x0:=CB (c:=c) (v':=v') (gO:=gO) I F y0 (by omega) (pr.o _ (by omega));rw[<-Q]at x0;have x1:=CB (c:=c) (v':=v') (gO:=gO) I F y1 (by omega) (pr.o _ (by omega));rw[<-Q]at x1;have aoG:∀t,wc.frozen? (K (d.heap.size+1) t)=false:=fun t=>by rw[Q];exact Uw I F (by omega) (mI t) (by omega) (pr.o _ (by omega))
    have bG:=aa (And.intro I (And.intro F (And.intro oL (And.intro fW Q))));clear I F oL fW Q sD;clear a6 bd Od Oe KA jS q1 kz xk GR xv UF UG UH UI UJ UK UL UM UN y0 y1 mI p8 qN;have Ew:P≠d.heap.size:=by omega
    have adE:P≠d.heap.size+1:=by omega
    have HBO:=aa (show v'.ownBlock≠some (d.heap.size+1) from fun r=>by
     rcases bG.o.2.2.1 with hn|hn
     ·have :=(aoT (S.o.dZ c E).1 (d.heap.size+1) (by rw[<-hn];exact r)).2;omega
     ·have :=hn _ r;have :=bG.o.1.size;omega)
    go_wp2;have X:=adz (u0:=A (CD+1)) (u1:=A c) S.o bR.o E yO.o bf.o bG.o.1 bG.o.2.1 bG.o.2.2.1 bG.o.2.2.2.1 tE.o (apn _) HBO.o Aw adB.o;rw[<-bG.o.2.2.2.2]at X;have An:wc.os=U.os/\wc.tape=U.tape/\wc.output=U.output/\wc.heap.size=U.heap.size:=by rw[bG.o.2.2.2.2];simp[World.setCell]
    refine bodyPost_ret (v:=.agg #[A (CD+1),A c]) (by simp[results,results145,go_sem,x0,x1]) rfl ⟨rfl,v',X.1,X.2.1,X.2.2.1,?_,?_,?_,?_,?_⟩
    ·exact An.1.trans X.2.2.2.1
    ·exact An.2.1.trans X.2.2.2.2.1
    ·exact An.2.2.1.trans X.2.2.2.2.2.1
    ·have :=X.2.2.2.2.2.2.1
     have :=An.2.2.2;simp[World.setCell];omega
    ·intro q hk h1 h2 ak
     refine X.2.2.2.2.2.2.2 q hk ?_ ?_ ak
     ·intro r;exact h1 (by rw[r];rfl)
     ·intro r;exact h2 (by rw[r,yO.o];rfl)
end
end Go.Proofs.YtnkpogjiiohapaaGreatDoor
