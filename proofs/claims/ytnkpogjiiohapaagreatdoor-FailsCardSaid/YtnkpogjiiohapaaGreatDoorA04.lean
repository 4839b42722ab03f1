/- Our own text. -/
import Derived.Deep.RegionWith
import Derived.Test.YtnkpogjiiohapaaGreatDoorA03
set_option linter.unusedSimpArgs false
set_option linter.unusedVariables false
set_option maxRecDepth 1000000
set_option maxHeartbeats 3200000
namespace Go.Proofs.YtnkpogjiiohapaaGreatDoor
open Go.RowKit Tryz
variable {a b l u:Nat}{c s:World}{d j k:Value}{f:Nat->Nat->Nat}{h:Nat->Nat->Value}{i:Nat->Value}{m:List bH}{n:List bg}{q:Nat->Bool}{r:List dE}
structure bE where
 p:bH
 du:Value
variable {e:Nat->List bE}
def lR (o:bE):List Value:=[A o.p.id.1,A o.p.id.2,A o.p.kind,.bool o.p.list,A o.p.object.1,A o.p.object.2,.string o.p.key,A o.p.element.1,A o.p.element.2,A o.p.behind.1,A o.p.behind.2,A o.p.num,A o.p.obj.1,A o.p.obj.2,o.du]
def kx (w:World) (v:Value) (l:List bE):Prop:=w.ownsRow 0 233 15 v l.length (l.flatMap lR)/\∀o∈l,eE w o.du o.p.old
theorem kx.ae{w v l}{w':World}(h:kx w v l)(a:J w w'):kx w' v l:=⟨c7 h.1 a,fun o b=>(h.2 o b).ae a⟩
theorem kx.cell{w l}{g:Nat}(h:kx w (.slice (some (H g)) a b) l)(c:a=l.length)(i:Nat)(d:i<l.length)(j:Nat)(e:j<15):w.cell? (K g (i*15+j))=(lR l[i])[j]?:=by
 subst c;exact ir (f:=lR) (fun _=>rfl) h.1 rfl i d j e
def oP (B:Nat) (w:World) (v:Value) (n:Nat) (a:Nat->Bool):Prop:=w.ownsRow B 4 1 v n ((List.range n).map fun i=>Value.bool (a i))
theorem oP.cell{w}{g:Nat}(h:oP l w (.slice (some (H g)) b u) b q)(c:a<b):w.cell? (K g a)=some (.bool (q a)):=by
 rw[arN h a (by omega)];simp[c]
theorem oP.C0{g:Nat}(h:oP b c (.slice (some (H g)) a l) a q)(i:Nat):c.frozen? (K g i)=false:=ase h i
theorem oP.store{g:Nat}(h:oP b c (.slice (some (H g)) a l) a q)(i:Nat):
  oP b (c.setCell (K g i) (.bool true)) (.slice (some (H g)) a l) a (fun j=>if j=i then true else q j):=by
 have :=(asr h i (.bool true)).1;unfold oP;have e:((List.range a).map fun i=>Value.bool (q i)).set i (.bool true)=(List.range a).map fun j=>Value.bool (if j=i then true else q j):=by
  apply aq9;intro j;rw[aso];by_cases f:i=j
  ·subst f;by_cases d:i<a
   ·simp[d]
   simp[d]
  by_cases d:j<a
  ·simp[f,d,aqa f]
  simp[f,d]
 rw[<-e];exact this
def c4:List bg:=[⟨(0,0),false,[]⟩]
theorem acF(e:((c.alloc (.cells #[A 0,A 0,.bool false,.slice none 0 0] 272)).alloc (.cells #[.slice (some (V c 0)) 1 1] 277)).grownBy s none):
  fq c.heap.size 0 s (c.heap.size+1) (.slice (some (V c 0)) 1 1) [⟨(0,0),false,.slice none 0 0,[]⟩]:=by
 refine⟨?_,by omega,⟨⟨by simp[k0],.inr ⟨c.heap.size,1,#[A 0,A 0,.bool false,.slice none 0 0],rfl,apX _,?_,by simp,by simp[maxLen],rfl,by simp[k0]⟩⟩,?_,?_⟩,by simp,?_⟩
 ·rw[e.block (c.heap.size+1) (by simp) (by simp)];have :c.heap.size+1=(c.alloc (.cells #[A 0,A 0,.bool false,.slice none 0 0] 272)).heap.size:=by simp
  rw[this];exact heap_alloc_new _ _
 ·rw[e.block c.heap.size (by simp;omega) (by simp),heap_alloc_old _ _ (by simp)];exact heap_alloc_new _ _
 ·intro o b;simp at b;subst b;exact⟨aqe _ _ _ _,fun a d=>by simp at d⟩
 ·intro i j f g h;simp at f g;omega
 intro o b;simp at b;subst b;exact⟨by simp,fun a d=>by simp at d⟩
theorem acG(h:c.ownsRow b 4 1 d a (madeCells (Value.bool false).cells (a*1)).toList):oP b c d a (fun _=>false):=by
 unfold oP;have e:(madeCells (Value.bool false).cells (a*1)).toList=(List.range a).map fun _=>Value.bool false:=by
  show(madeCells #[Value.bool false] (a*1)).toList=_;rw[toList_madeCells_one,arn];apply aq9;intro j;by_cases f:j<a<;>simp[f]
 rw[<-e];exact h
theorem oP.ae{n w v}{w':World}(h:oP a w v n q)(b:J w w'):oP a w' v n q:=c7 h b
theorem fq.store(h:fq b l c a d r){g o:Nat}{f:Array Value}{e:TypeId}(t:c.heap[g]?=some (.cells f e (0,0)))(v:e≠277)(w:e≠272)(x:e≠269)(y:e≠243)(u:Value):
  fq b l (c.setCell (K g o) u) a d r:=by
 have z:∀i,i≠g->(c.setCell (K g o) u).heap[i]?=c.heap[i]?:=fun i j=>aqr _ _ _ _ j
 have m:∀(i:Nat) (k:Array Value) (n:TypeId),c.heap[i]?=some (.cells k n (0,0))->n≠e->(c.setCell (K g o) u).heap[i]?=c.heap[i]?:=by
  intro i k n j B;exact z i (fun C=>by subst C;exact B (bK j t))
 refine⟨by rw[m a _ _ h.ai (aqa v)];exact h.ai,h.hB,⟨⟨h.af.1.1,?_⟩,fun q s=>KP (h.af.2.1 q s) (fun i j=> ?_) (fun i k p=>m i k _ p (aqa y)),h.af.2.2⟩,h.hn,h.ad⟩
 ·rcases h.af.1.2 with D|⟨i,E,F,I,L,j,rest⟩
  ·exact .inl D
  exact .inr ⟨i,E,F,I,L,by rw[m i _ _ j (aqa w)];exact j,rest⟩
 obtain⟨k,p⟩:=bq (h.af.2.1 q s).1 j;exact m i k _ p (aqa x)
theorem acH(x y:PId)(w:World):O 158 #[.agg #[A x.1,A x.2],.agg #[A y.1,A y.2]] w fun e a=>e=.returned (.bool (rM x y))/\J w a:=
 abz x.1 x.2 y.1 y.2 w
def acI (w:World) (l:List bE) (S:List bH) (d gt m:Nat) (wr:World):Prop:=
 ∃c a b,fq w.heap.size m wr d c a/\a.map dE.p=(S.take m).foldl cc c4/\oP w.heap.size wr (.slice (some (H gt)) l.length l.length) l.length b/\
  (∀i (e:i<(l.map bE.p).length),b i=decide ((l.map bE.p)[i].id∈(S.take m).map bH.id))/\J w wr
def acJ (w:World) (l:List bE) (a:Nat->Bool) (k:Nat) (r:Int) (wr b:World):Prop:=qV ((l.map bE.p).map bH.id) a k r/\J wr b
theorem acK(v:Value)(l:List bE)(S:List bH)(b0:S.Perm (l.map bE.p))(Uk:xS S)(hl:l.length<10000)(w:World)(h:kx w v l):
  O 175 #[v] w fun e Q=>
   ∃d F B,e=.returned (Z d)/\fq w.heap.size l.length Q d F B/\B.map dE.p=S.foldl cc c4/\J w Q:=by
 obtain⟨a,cap,rfl,jq,cZ,fK⟩:=bm h.1;unfold maxLen at cZ;have dn:=aa fK;clear fK;have t:=aa h;clear h;have I:=aa b0;clear b0;have KW:=aa Uk;clear Uk;obtain⟨i0,R,hz0,hz1,hz2⟩:=info_parts (P:=prog) (e:=4) (z:=.bool false) (size:=1) (bytes:=1) (by kernel_rfl);go_enter func175,ntmps175;go_wp2_with (at_make;go_must (refine wpList_make_full _ rfl (.tmp 14) (.tmp 14) 299 rfl (w.heap.size+2) 4 i0 (.bool false) 1 underlying299 R hz0 hz1 _ _ _ _ l.length rfl rfl ?h1 ?h2 ?al ?aL ?b1 ?_;(case h1=>rfl);(case h2=>rfl);(case al=>rw[hz2];omega);(case aL=>unfold maxLen;omega);(case b1=>simp);intro w1 U W))
 have aq:J w w1:=(((apY _ w).alloc (apX _) _).alloc (by simp) _).grown W (by simp;omega) (fun k hk=>by cases hk);have Hm:=aa (acF W);rw[show((w.alloc (.cells #[A 0,A 0,.bool false,.slice none 0 0] 272)).alloc (.cells #[.slice (some (V w 0)) 1 1] 277)).heap.size=w.heap.size+1+1 by simp]at U;have acL:Hq (oP w.heap.size w1 (.slice (some (H (w.heap.size+1+1))) l.length l.length) l.length (fun _=>false)):=gT (base':=w.heap.size) (acG U) (by omega);clear W U R hz0 hz1 hz2 i0;have ay:=aa aq;clear aq;generalize w.heap.size+1=d at *;generalize d+1=gt at *;go_loopw [5] (fun X wr=>∃m:Nat,m<=l.length/\X=A m/\acI w l S d gt m wr) (fun X _=>l.length-(intOf X).toNat)
 case atStart=>exact⟨0,apZ _,rfl,_,_,fun _=>false,Hm.o,rfl,acL.o,fun i Y=>by simp,ay.o⟩
 case round=>
  obtain⟨m,hm,rfl,hinv⟩:=hrel;obtain⟨ws,AU⟩:∃ws,ws=wr:=⟨_,rfl⟩;subst AU;obtain⟨F,B,dq,rL,zc,tQ,KX,a8⟩:=hinv;have qf:=aa rL;clear rL;have KY:=aa zc;clear zc;have sI:=aa KX;clear KX;have HFL:=aa tQ;clear tQ;have n:=aa a8;clear a8;by_cases L:m<l.length
  ·obtain⟨g,rfl⟩:=dn.o m L;go_wp2;go_loopw [6,7] (fun b i hf=>∃k:Nat,∃r:Int,k<=l.length/\i=A k/\b=A r/\acJ w l dq k r ws hf) (fun _ i _=>l.length-(intOf i).toNat)
   case atStart=>exact⟨0,-1,apZ _,rfl,rfl,.inl ⟨rfl,fun j C=>absurd C (aq7 _)⟩,apY _ _⟩
   case round=>
    obtain⟨k,r,hk,rfl,rfl,AV⟩:=hrel;obtain⟨Ul,u⟩:=AV;have x:=aa Ul;clear Ul;have q:=HFL.o.ae u;by_cases y:k<l.length
    ·have bf:=oP.cell q y;have M:=(kx.cell (t.o.ae (n.o.trans (u.mono n.o.size))) rfl k y 0 (by omega));have bh:=(kx.cell (t.o.ae (n.o.trans (u.mono n.o.size))) rfl k y 1 (by omega));simp only[lR,ard,ar2,aqW]at M bh;have c9:g<wr.heap.size:=aqd wr _ M;have s:=aa u;clear u;have HFQ:=aa q;clear q;cases D:dq k
     ·rw[D]at bf;rcases x.o.shape with rfl|⟨j,C,rfl⟩
      ·go_wp2;go_roundw
       case rel=>exact⟨k+1,k,by omega,by go_num,rfl,x.o.first (by simpa using y) D,s.o⟩
       case measure=>simp[intOf];omega
      have iu:j<l.length:=by simpa using C
      have jx:=(kx.cell (t.o.ae (n.o.trans (s.o.mono n.o.size))) rfl j iu 0 (by omega));have q1:=(kx.cell (t.o.ae (n.o.trans (s.o.mono n.o.size))) rfl j iu 1 (by omega));simp only[lR,ard,ar2,aqW]at jx q1;have AW:¬(j:Int)<0:=by omega
      have bR:=aa (acH l[k].p.id l[j].p.id);go_wp2;go_region_with (go_at_call 158;refine(bR.o _).mono ?_;rintro e Q ⟨rfl,eX⟩;have k5:=aa eX;clear eX)
      all_goals cases ab:rM l[k].p.id l[j].p.id
      all_goals go_wp2
      all_goals go_roundw
      all_goals first |(simp[intOf];omega)|exact⟨k+1,j,by omega,by go_num,rfl,x.o.Od (by simpa using y) C (by simpa using ab),s.o.trans (((apY _ wr).drew.trans k5.o).mono s.o.size)⟩|exact⟨k+1,k,by omega,by go_num,rfl,x.o.better (by simpa using y) C D (by simpa using ab),s.o.trans (((apY _ wr).drew.trans k5.o).mono s.o.size)⟩
     rw[D]at bf;go_wp2;go_roundw
     case rel=>exact⟨k+1,r,by omega,by go_num,rfl,x.o.taken D,s.o⟩
     case measure=>simp[intOf];omega
    have Hn:k=l.length:=by omega
    subst Hn;obtain⟨i,Y,rfl,E⟩:=acD I.o KW.o (by simpa using L) sI.o (by simpa using x.o);have c:i<l.length:=by simpa using Y
    have OK:J w wr:=n.o.trans (u.mono n.o.size);have f:=t.o.ae OK;have bf:=oP.cell q c;have apg:=oP.C0 q i;have c9:g<w.heap.size:=by
     have :=kx.cell t.o rfl i c 0 (by omega);simp only[lR,ard]at this;exact aqd w _ this
    have ly:w.heap.size<=gt:=(ap1 q gt rfl).1;have bp:g≠gt:=by omega
    have M:=kx.cell f rfl i c 0 (by omega);have bh:=kx.cell f rfl i c 1 (by omega);have bO:=kx.cell f rfl i c 2 (by omega);have lz:=kx.cell f rfl i c 3 (by omega);have zd:=kx.cell f rfl i c 4 (by omega);have aph:=kx.cell f rfl i c 5 (by omega);have api:=kx.cell f rfl i c 6 (by omega);have apj:=kx.cell f rfl i c 7 (by omega);have apk:=kx.cell f rfl i c 8 (by omega);have apl:=kx.cell f rfl i c 9 (by omega);have o10:=kx.cell f rfl i c 10 (by omega);have o11:=kx.cell f rfl i c 11 (by omega);have o12:=kx.cell f rfl i c 12 (by omega);have o13:=kx.cell f rfl i c 13 (by omega);have o14:=kx.cell f rfl i c 14 (by omega);simp only[lR,ard,ar2,aqW]at M bh bO lz zd aph api apj apk apl o10 o11 o12 o13 o14;have R:(0:Int)<=(i:Int):=by omega
    have Um:=aa E;clear E;have HDW:=aa (((qf.o.ae u).store (bq q (g:=gt) rfl).choose_spec (by decide) (by decide) (by decide) (by decide) (.bool true) (o:=i)));have HFW:=aa (oP.store q i);have AX:=aa (OK.setCell (p:=(K gt i)) ly (.bool true));have tS:=aa ((t.o.2 l[i] (ap6 _)).ae AX.o);clear q f OK;go_wp2_with (go_at_call 192;go_must (refine(acz w.heap.size m d F B (by omega) l[i].du l[i].p _ ?av ?ab).mono ?_;(case av=>exact HDW.o);(case ab=>exact tS.o);rintro e w2 ⟨rfl,vd2,os2,Fa,iv,rI⟩;have N:=aa (And.intro Fa (And.intro iv rI));clear Fa iv rI))
    go_roundw
    case rel=>
     have Fe:m<S.length:=by rw[I.o.length_eq];simpa using L
     refine⟨m+1,by omega,by go_num,vd2,os2,_,N.o.1,?_,N.o.2.2.row HFW.o (by decide) (by decide) (by decide),acE I.o KW.o (by simpa using L) sI.o Y Um.o,AX.o.trans N.o.2.2.below⟩;have E:=Um.o;rw[aqH]at E;rw[N.o.2.1,KY.o,E,aqp Fe,ara];rfl
    case measure=>simp[intOf];omega
  go_wp2;go_ret
  have e:m=l.length:=by omega
  subst e;refine⟨d,F,B,rfl,qf.o,?_,n.o⟩;have :=KY.o;rwa [aql (by rw[I.o.length_eq];simp)]at this
structure e8 (w:World) (r N:Nat) (aS aJ aU:Value) (aW:Nat->Value) (cops:Nat->List bE) (cp:Nat->Nat->Value) (has:Nat->Nat->Nat):Prop where
 aH:w.heap[r]?=some (.cells #[A N,aS,aJ,aU] 222 (0,0))
 hN:N<=4
 hI:w.ownsRow 0 255 1 aS N ((List.range N).map aW)
 eu:∀i,i<N->kx w (aW i) (cops i)
 fF:w.ownsRow 0 225 4 aJ N ((List.range N).flatMap fun c=>[cp c 0,cp c 1,cp c 2,cp c 3])
 hH:∀c,c<N->w.ownsRow 0 3 1 (cp c 0) N ((List.range N).map fun i=>A (has c i))
 hle:∀c i,c<N->i<N->has c i<=(cops i).length
 hsz:∀i,i<N->(cops i).length<=60
theorem e8.ae{w r N b d e f g j has}{w':World}(h:e8 w r N b d e f g j has)(a:J w w'):e8 w' r N b d e f g j has:=
 ⟨by rw[a.block r (ap8.1 h.aH).1];exact h.aH,h.hN,c7 h.hI a,fun i k=>(h.eu i k).ae a,c7 h.fF a,fun c l=>c7 (h.hH c l) a,h.hle,h.hsz⟩
theorem e8.bf{w}(c:e8 w a b d j k i e h f):w.cell? (H a)=some (A b):=by simp[World.cell?,c.aH]
theorem e8.a6{w}(c:e8 w a b d j k i e h f):w.cell? (K a 1)=some d:=by simp[World.cell?,c.aH]
theorem e8.bc{w}(c:e8 w a b j d k i e h f):w.cell? (K a 2)=some d:=by simp[World.cell?,c.aH]
theorem e8.row{w u q v}(g:e8 w l b d j u q e h v)(r:0<b):∃m n o p,d=.slice (some (H m)) b n/\j=.slice (some (H o)) b p/\b<=n/\b<=p/\(∀i,i<b->w.cell? (K m i)=some (q i))/\(∀c,c<b->w.cell? (K o (c*4))=some (h c 0)):=by
 obtain⟨a,n,s,x,_,y⟩:=bm g.hI;obtain⟨E,p,t,z,_,B⟩:=bm g.fF;obtain⟨m,rfl⟩:=y 0 r;obtain⟨o,rfl⟩:=B 0 r;refine⟨m,n,o,p,s,t,x,z,fun i C=> ?_,fun c D=> ?_⟩
 ·have :=g.hI;rw[s]at this;rw[this.cellAt i (by omega)];simp[C]
 have :=g.fF;rw[t]at this;have :=ir (f:=fun c=>[h c 0,h c 1,h c 2,h c 3]) (k:=4) (fun _=>rfl) this (by simp) c (by simpa using D) 0 (by omega);rw[aqW]at this;rw[this];simp
theorem e8.C3{w}(g:e8 w u b d j k i e h f)(o:l<b):∃m n,h l 0=.slice (some (H m)) b n/\b<=n/\∀c,c<b->w.cell? (K m c)=some (A (f l c)):=by
 obtain⟨a,n,p,q,_,r⟩:=bm (g.hH l o);obtain⟨m,rfl⟩:=r 0 (by omega);refine⟨m,n,p,q,fun c s=> ?_⟩;have :=g.hH l o;rw[p]at this;rw[this.cellAt c (by omega)];simp[s]
theorem xU(l:e8 c a b d j k i e h f)(g:Int):
  O 151 #[Z a,A g] c fun m n=>m=.returned (.bool (decide (0<=g/\g<b)))/\n=c:=by
 have p:=l.bf;clear l;by_cases o:0<=g
 ·go_enter func151,ntmps151;go_wp2;go_ret
  exact⟨mf (by simp[o]),rfl⟩
 go_enter func151,ntmps151;go_wp2;go_ret
 exact⟨mf (by simp[show ¬0<=g by omega]),rfl⟩
theorem AY(g:e8 c a b d j k i e h f)(l:Nat)(o:l<b)(n:Nat)(s:n<=10):
  O 144 #[Z a,A l,A n] c fun m q=>m=.returned (.bool (decide ((e l).length+n<=60)))/\q=c:=by
 have t:=g.a6;obtain⟨u,v,w,x,rfl,rfl,y,_,cells,_⟩:=g.row (by omega);obtain⟨z,B,p,_,_,_⟩:=bm (g.eu l o).1;have r:=cells l o;rw[p]at r;have C:=g.hsz l o;have D:=g.hN;clear g cells p;go_enter func144,ntmps144;go_wp2;go_ret
 exact⟨mf (by rw[decide_eq_decide];omega),rfl⟩
theorem acM {α:Type} (f:α->List Value) (size bytes:Nat) (t e:TypeId) (z:Value) (F:(prog.info? e).map (fun i=>(i.zero,i.size,i.bytes))=some (some z,size,bytes))
  (p:prog.underlying t=some (.slice e)) (I:z.cells.size=size) (L:0<size) (M:∀x,(f x).length=size)
  {q:Array Oper} {o:Oper} {a:Act} {b:Act->World->Prop} {Q:Exit->Act->World->Prop} {E:Prop}
  (N:o.guard=none) (s x:Operand) (r:o.op=.call {callee:=.builtin .append,args:= #[s,x],argTypes:= #[t,t]}) (B:Nat) (v:Value) (l g:List α) (w:a.eval s=v)
  (m:c.ownsRow B e size v l.length (l.flatMap f)) (y:Value) (C:a.eval x=y) (R:rF c f y g) (S:∀u∈g.flatMap f,u.oneCell'=true)
  (U:(l.length+g.length)*bytes<=140737488355328) (W:l.length+g.length<=maxLen) (X:B<=c.heap.size)
  (h:∀k j,j.ownsRow B e size k (l.length+g.length) ((l++g).flatMap f)->c.grownBy j v.ownBlock->b (a.put o.dst k) j):
  if Region.wanted o (yielded q a.tmps)=true then Oper.wp prog o a c b Q else E:=by
 have Y:Region.wanted o (yielded q a.tmps)=true:=by simp[Region.wanted,N]
 rw[if_pos Y];obtain⟨i,D,bM,hsz,ez⟩:=info_parts F;rcases R with⟨rfl,rfl⟩|⟨Hb,d,rfl,hc⟩
 ·have n:=run_append_owned_none (P:=prog) c B t o.type e i size p D v l.length _ m;unfold Oper.wp execOp;simp only[r,resolve,invoke,builtin,aqt,aq4,aqz,arQ,aqj,aqY,w,C,n];exact h v c (by simpa using m) (World.grownBy.refl c _)
 obtain⟨k,j,n,h2,al,_⟩:=run_append_own (P:=prog) c B t o.type e i z size bytes p D bM hsz ez I L v l.length (l.flatMap f) m Hb g.length d (g.flatMap f) (qS f size M g) hc S W U X;unfold Oper.wp execOp;simp only[r,resolve,invoke,builtin,aqt,aq4,aqz,arQ,aqj,aqY,w,C,n];exact h k j (by simpa using h2) al
def xV (B:Nat) (w:World) (v:Value) (l:List bE):Prop:=w.ownsRow B 233 15 v l.length (l.flatMap lR)
theorem xV.below{l}{b:World}(h:xV a c d l)(e:Below a s c)(f:a<=c.heap.size)(g:c.grownBy b d.ownBlock):Below a s b:=
 e.grown g f fun k i=>(ap1 h k i).1
theorem xV.drew{B w v l}(h:xV B w v l):xV B w.drew v l:=asu h
theorem acN{l:List bE}(h:∀o∈l,eE c o.du o.p.old):∀u∈l.flatMap lR,u.oneCell'=true:=by
 intro u d;obtain⟨o,e,d⟩:=aqq.1 d;obtain⟨a,b,f,_⟩:=bm (h o e);simp[lR]at d;rcases d with rfl|rfl|rfl|rfl|rfl|rfl|rfl|rfl|rfl|rfl|rfl|rfl|rfl|rfl|rfl<;>first |rfl|(rw[f];rfl)
theorem acO{i:Array Oper}{o:Oper}{a:Act}{b:Act->World->Prop}{Q:Exit->Act->World->Prop}{E:Prop}(j:o.guard=none)(s x:Operand)(k:o.op=.call {callee:=.builtin .append,args:= #[s,x],argTypes:= #[255,255]})(B:Nat)(v:Value)(l d:List bE)(m:a.eval s=v)(n:xV B c v l)(g:Value)(p:a.eval x=g)(q:rF c lR g d)(r:∀u∈d.flatMap lR,u.oneCell'=true)(z:l.length+d.length<100000)(t:B<=c.heap.size)(h:∀f e,xV B e f (l++d)->c.grownBy e v.ownBlock->b (a.put o.dst f) e):
  if Region.wanted o (yielded i a.tmps)=true then Oper.wp prog o a c b Q else E:=
 acM lR 15 144 255 233 (.agg #[A 0,A 0,A 0,.bool false,A 0,A 0,.string ⟨#[]⟩,A 0,A 0,A 0,A 0,A 0,A 0,A 0,.slice none 0 0]) (by kernel_rfl) underlying255 rfl (by omega) (fun _=>rfl)
  j s x k B v l d m n g p q r (by omega) (by unfold maxLen;omega) t (fun f e w y=>h f e (by unfold xV;simpa using w) y)
def iU (cops:Nat->List bE) (has:Nat->Nat) (k:Nat):List bE:=(List.range k).flatMap fun i=>(cops i).take (has i)
theorem K0(a:Nat->List bE)(b:Nat->Nat)(k:Nat):iU a b (k+1)=iU a b k++(a k).take (b k):=by
 unfold iU;rw[aqI,aqG];simp
theorem K1(a:Nat->List bE)(b:Nat->Nat):∀k,(∀i,i<k->(a i).length<=60)->(iU a b k).length<=60*k
 |0,_=>by simp[iU]
 |k+1,h=>by
  rw[K0,ap4,aqg];have :=K1 a b k (fun i c=>h i (by omega));have :=h k (by omega);omega
theorem Un{S}(h:e8 c b a d j k i e S f)(l:Nat)(x:l<a):
  O 173 #[Z b,A l] c fun n D=>
   ∃v,n=.returned v/\kx D v (iU e (f l) a)/\J c D:=by
 obtain⟨gO,qW,U,eY,rfl,rfl,Fg,Fh,E,F⟩:=h.row (by omega);obtain⟨W,X,I,Fi,L⟩:=h.C3 x;have Y:=aa h.bf;have E3:=aa h.a6;have Ho:=aa h.bc;have HCC:=aa (show c.cell? (K U (l*4))=some (.slice (some (H W)) a X) by rw[F l x,I]);have hN:=h.hN;have r:=aa h;clear h;have HCO:=aa E;clear E;have qg:=aa L;clear L;clear F I;go_enter func173,ntmps173;go_wp2;go_loopw [5,6] (fun u m wr=>∃g:Nat,g<=a/\m=A g/\xV c.heap.size wr u (iU e (f l) g)/\J c wr) (fun _ m _=>a-(intOf m).toNat)
 case atStart=>exact⟨0,apZ _,rfl,aqe _ _ _ _,apY _ _⟩
 case round=>
  obtain⟨g,hk,rfl,y,p⟩:=hrel;have bf:=ae p Y.o;have a6:=ae p E3.o;have bc:=ae p Ho.o;have Hp:=ae p HCC.o;by_cases s:g<a
  ·have t:=r.o.eu g s;obtain⟨M,w,aF,lv,rE,sJ⟩:=bm t.1;unfold maxLen at rE;have z:=HCO.o g s;rw[aF]at z t;replace z:=ae p z;have lA:=ae p (qg.o g s);have hle:=r.o.hle l g x s;have hsz:=r.o.hsz g s;have ku:=K1 e (f l) g (fun m N=>r.o.hsz m (by omega));have B:=aa (t.ae p);have P:=aa y;clear y t;have C:=aa p;clear p;clear sJ;have hcI:((f l g:Nat):Int)<=(w:Int):=by omega
   have qh:(0:Int)<=((f l g:Nat):Int):=by omega
   have Hs:=aa (show f l g=0->M=none->w=0 from fun _ n=>by have :=B.o.1;rw[n]at this;exact Of this);go_wp2;go_region_law (refine acO rfl (.tmp 15) (.tmp 34) rfl c.heap.size _ (iU e (f l) g) ((e g).take (f l g)) (by simp[Act.eval,Act.put];rfl) ?h1 (.slice M (f l g) w) (by simp[Act.eval,Act.put]) ?h2 ?al ?aL ?b1 ?_;(case h1=>exact P.o);(case h2=>exact Hc B.o.1 (fun _=>rfl) rfl (f l g) hle w Hs.o);(case al=>exact acN (fun o q=>B.o.2 o (aqE q)));(case aL=>rw[aqg];omega);(case b1=>exact C.o.size);intro v' w2 Q R;have tP:=aa Q;clear Q;have dN:=aa R;clear R)
   all_goals(try go_wp2)
   all_goals go_roundw
   all_goals first |(simp[intOf];omega)|exact⟨g+1,by omega,by go_num,by rw[K0];exact tP.o,xV.below P.o.drew C.o.drew C.o.size dN.o⟩
  go_wp2;go_ret
  have n:g=a:=by omega
  subst n;refine⟨_,rfl,⟨gT y (apZ _),fun o q=> ?_⟩,p⟩;unfold iU at q;obtain⟨m,N,q⟩:=aqq.1 q;exact((r.o.eu m (by simpa using N)).2 o (aqE q)).ae p
theorem ib.base{w l}{B':Nat}(h:ib a w d l)(b:B'<=a):ib B' w d l:=⟨gT h.1 b,h.2⟩
theorem fq.base{B t w d v b}{B':Nat}(h:fq B t w d v b)(a:B'<=B):fq B' t w d v b:=
 ⟨h.ai,ap0 a h.hB,⟨gT h.af.1 a,fun o c=>(h.af.2.1 o c).base a,h.af.2.2⟩,h.hn,h.ad⟩
structure Shown (w:World) (r N:Nat) (aS aJ aU:Value) (aW:Nat->Value) (cops:Nat->List bE) (cp:Nat->Nat->Value) (has:Nat->Nat->Nat) (c:Nat) (S:List bH):Prop where
 room:e8 w r N aS aJ aU aW cops cp has
 hc:c<N
 perm:S.Perm ((iU cops (has c) N).map bE.p)
 sort:xS S
theorem Shown.ae{w r N a b d e f g has c S}{w':World}(h:Shown w r N a b d e f g has c S)(i:J w w'):Shown w' r N a b d e f g has c S:=
 ⟨h.room.ae i,h.hc,h.perm,h.sort⟩
theorem Shown.len{r N b c}(a:Shown s r N d j k b e h f c m):(iU e (f c) N).length<=240:=by
 have :=K1 e (f c) N (fun i g=>a.room.hsz i g);have :=a.room.hN;omega
theorem Uo(n:Shown c b l d j k i e h f a m):O 152 #[Z b,A a] c fun q x=>
   ∃g t r,q=.returned (Z g)/\fq c.heap.size 240 x g t r/\r.map dE.p=m.foldl cc c4/\J c x:=by
 have I:=n.len;have s:=aa n;clear n;go_enter func152,ntmps152;go_wp2_with fail
 refine(Un s.o.room a s.o.hc).mono ?_;rintro q E ⟨v,rfl,y,z⟩;have F:=aa y;clear y;have u:=aa z;clear z;go_wp2_with fail
 refine(acK v _ m s.o.perm s.o.sort (by omega) E F.o).mono ?_;rintro q L ⟨g,t,r,rfl,B,C,D⟩;have w:=aa (And.intro B (And.intro C D));clear B C D;go_wp2;go_ret
 exact⟨g,t,r,rfl,(w.o.1.mono (by omega)).base u.o.size,w.o.2.1,u.o.trans (w.o.2.2.mono u.o.size)⟩
theorem Ht(l:e8 c b a d j k i e h f)(g r s:Int)(t:Bool)(n:¬(0<=g/\g<a)):
  O 147 #[Z b,A g,.agg #[A r,A s],.bool t] c fun m u=>
   m=.returned (.tuple #[.pointer none,A 2])/\J c u:=by
 have v:=aa l;clear l;have p:decide (0<=g/\g<a)=false:=decide_eq_false n;have w:=aa p;clear p n;go_enter func147,ntmps147;go_wp2_with fail
 refine(xU (v.o.ae ((apY _ c).alloc (apX _) _)) g).mono ?_;rintro m y ⟨q,x⟩;rw[w.o]at q;subst q;subst x;go_wp2;go_ret2
 exact⟨rfl,(apY _ _).alloc (apX _) _⟩
structure sK (w0 w:World) (D:List bg) (k:Nat) (d:Nat) (go cap:Nat) (os:List dE):Prop where
 doc:fq w0.heap.size 240 w d (.slice (some (H go)) os.length cap) os
 eq:os.map dE.p=D
 lt:k<os.length
 below:J w0 w
theorem acP(r:Shown c l u d j k i e h f b m)(t w:Int)(E:Bool):
  O 147 #[Z l,A b,.agg #[A t,A w],.bool E] c fun n R=>
   (cM (jw (t,w)) (m.foldl cc c4)<0/\n=.returned (.tuple #[.pointer none,A 3])/\J c R)\/
   (∃g:Nat,cM (jw (t,w)) (m.foldl cc c4)=(g:Int)/\∃F:g<(m.foldl cc c4).length,
    (((m.foldl cc c4)[g].list≠E/\n=.returned (.tuple #[.pointer none,A 4])/\J c R)\/
     ((m.foldl cc c4)[g].list=E/\∃q y I s,n=.returned (.tuple #[.pointer (some (K y (g*4))),A 0])/\sK c R (m.foldl cc c4) g q y I s))):=by
 have X:decide (0<=(b:Int)/\(b:Int)<u)=true:=decide_eq_true (by have :=r.hc;omega);have gL:=aa X;clear X;have Y:=aa r;clear r;generalize k6:m.foldl cc c4=z;have wB:=aa k6;clear k6;go_enter func147,ntmps147;go_wp2_with fail
 refine(xU (Y.o.room.ae ((apY _ c).alloc (apX _) _)) b).mono ?_;rintro n S ⟨he,hw⟩;rw[gL.o]at he;subst he;subst hw;go_wp2_with fail
 refine(Uo (Y.o.ae ((apY _ c).alloc (apX _) _))).mono ?_;rintro n S ⟨q,mK,s,rfl,rL,B,L⟩;rw[wB.o]at B;have cy:=ae (a:=(V c 0)) (v:=A t) L (by simp[go_sem]);have bx:=ae (a:=(V c 1)) (v:=A w) L (by simp[go_sem]);have dp:J c S:=((apY _ c).alloc (apX _) _).trans (L.mono (by simp));have x:=aa (rL.base (B':=c.heap.size) (by simp));clear rL L;have ay:=aa dp;clear dp;have C:=aa B;clear B;go_wp2_with fail
 refine(CN c.heap.size q mK s t w S x.o.cell x.o.af).mono ?_;rintro n w2 ⟨rfl,U⟩;have Up:cM (lu (t,w)) s=cM (jw (t,w)) z:=by rw[<-C.o,KT]
 have Uq:=aa Up;clear Up;replace x:=aa (x.o.ae U);have D:=aa (ay.o.trans (U.mono ay.o.size));clear U cy bx;have aE:=yY (lu (t,w)) s;have kN:=CR (lu (t,w)) s;by_cases W:cM (lu (t,w)) s<0
 ·have eL:=aa W;have aj:cM (lu (t,w)) s= -1:=by omega
  clear W aE kN;go_wp2;go_ret2
  exact .inl ⟨by rw[<-Uq.o];exact eL.o,rfl,D.o⟩
 obtain⟨g,F⟩:=arl (a:=cM (lu (t,w)) s) (by omega);have M:g<s.length:=by omega
 obtain⟨y,I,cm,aF,C2,c8,za,cZ,gB,nN,bz,B⟩:=x.o.row M;unfold maxLen at cZ;subst aF;have bf:=x.o.cell;have bc:w2.cell? (K y (g*4+2))=some (.bool s[g].list):=by simp[World.cell?,c8,bz]
 have N:g<z.length:=by rw[<-C.o];simpa using M
 have ku:z[g].list=s[g].list:=by
  have :z[g]=s[g].p:=by simp only[<-C.o,aqH]
  rw[this];rfl
 have P:=aa ku;clear ku;clear C2 c8 gB nN bz B aE kN W;rw[F];have hs:=aa F;clear F;have Q:=aa (show cM (jw (t,w)) z=(g:Int) by rw[<-Uq.o];exact hs.o);generalize s[g].list=ol at *;cases ol<;>cases E
 all_goals go_wp2
 all_goals go_ret2
 ·exact .inr ⟨g,Q.o,N,.inr ⟨P.o,q,y,I,s,rfl,x.o,C.o,M,D.o⟩⟩
 ·exact .inr ⟨g,Q.o,N,.inl ⟨by rw[P.o];simp,rfl,D.o⟩⟩
 ·exact .inr ⟨g,Q.o,N,.inl ⟨by rw[P.o];simp,rfl,D.o⟩⟩
 exact .inr ⟨g,Q.o,N,.inr ⟨P.o,q,y,I,s,rfl,x.o,C.o,M,D.o⟩⟩
def oQ (D:List bg) (x:PId) (a:Bool):Except Int Nat:=
 if cM (jw x) D<0 then .error 3
 else match D[(cM (jw x) D).toNat]? with
  |some o=>if o.list=a then .ok (cM (jw x) D).toNat else .error 4
  |none=>.error 3
theorem acQ{x:PId}{a:Bool}(h:cM (jw x) n<0):oQ n x a=.error 3:=by unfold oQ;rw[if_pos h]
theorem Ur{x:PId}{b:Bool}(h:cM (jw x) n=(a:Int))(c:a<n.length):oQ n x b=if n[a].list=b then .ok a else .error 4:=by
 unfold oQ;rw[if_neg (by omega),h];simp[c]
def hg (o:bg) (key:ByteArray) (x:PId):List cP:=match o.ss.find? (fk key x) with |some s=>s.ad|none=>[]
theorem Hu(q:Shown c a l d j k i e h f b m)(t u:Int)(v:Bool):
  O 147 #[Z a,A b,.agg #[A t,A u],.bool v] c fun o y=>
   (∃n,oQ (m.foldl cc c4) (t,u) v=.error n/\(n=3\/n=4)/\o=.returned (.tuple #[.pointer none,A n])/\J c y)\/
   (∃g p w z B,oQ (m.foldl cc c4) (t,u) v=.ok g/\o=.returned (.tuple #[.pointer (some (K w (g*4))),A 0])/\sK c y (m.foldl cc c4) g p w z B):=by
 refine(acP q t u v).mono fun o y E=> ?_
 rcases E with⟨x,r,s⟩|⟨g,x,D,⟨r,s,C⟩|⟨r,p,w,z,B,s,C⟩⟩
 ·exact .inl ⟨3,acQ x,.inl rfl,r,s⟩
 ·exact .inl ⟨4,by rw[Ur x D,if_neg r],.inr rfl,s,C⟩
 exact .inr ⟨g,p,w,z,B,by rw[Ur x D,if_pos r],s,C⟩
theorem sK.ae{a w D k d b cap c}(h:sK a w D k d b cap c){w':World}(e:J w w'):sK a w' D k d b cap c:=⟨h.doc.ae e,h.eq,h.lt,h.below.trans (e.mono h.below.size)⟩
theorem sK.hr{b w D k d c e a}(h:sK b w D k d c e a):ib b.heap.size w (a[k]'h.lt).hr (a[k]'h.lt).ss:=h.doc.af.2.1 _ (ap6 _)
theorem sK.cell{w}(h:sK c w n a l b u r):w.cell? (K b (a*4+3))=some (r[a]'h.lt).hr:=(xG.cells h.doc.af rfl a h.lt).2.2.2
theorem sK.ss{b w D k d c e a}(h:sK b w D k d c e a):(D[k]?.map bg.ss)=some ((a[k]'h.lt).ss.map bD.p):=by
 obtain⟨g,rfl,f,i⟩:=h;simp[f,dE.p]
theorem sK.len{w k cap}(h:sK c w n k a b cap r):(r[k]'h.lt).ss.length<=240/\∀s∈(r[k]'h.lt).ss,s.ad.length<=240:=h.doc.ad _ (ap6 _)
theorem Us{l:List bD}{key:ByteArray}{x:PId}:(l.map bD.p).find? (fk key x)=if cM (hC key x) l<0 then none else(l[(cM (hC key x) l).toNat]?).map bD.p:=by
 have t:=yY (hC key x) l;split
 ·rename_i b
  rw[arw];intro s g;obtain⟨c,h,rfl⟩:=ap5.1 g;unfold cM at b;split at b
  ·omega
  rename_i e
  rw[ar1]at e;have :=e c h;show ¬hC key x c=true;rw[this];simp
 rename_i b
 obtain⟨k,d⟩:=arl (a:=cM (hC key x) l) (by omega);rw[d];have f:k<l.length:=by omega
 have m:l.findIdx? (hC key x)=some k:=by
  unfold cM at d;split at d
  ·rename_i i n;rw[n];congr 1;omega
  omega
 obtain⟨_,o,q⟩:=arA.1 m;simp only[Int.ofNat_eq_natCast,ar4,aq2 f,aqJ];rw[ar5];refine⟨o,k,by simpa using f,by simp,fun j r=> ?_⟩;have :=q j r;rw[aqH];show(!hC key x l[j])=true;simpa using this
def lS (D:List bg) (x:PId) (key:ByteArray):Except Int (List cP):=
 match oQ D x false with
 |.error n=>.error n
 |.ok k=>if kr key then .ok (match D[k]? with |some o=>hg o key (0,0)|none=>[]) else .error 5
theorem K6{N}(t:Shown c b N d j k i e h f u m)(C D:Int)(key:ByteArray)(dW:key.size<=maxLen):
  O 143 #[Z b,A u,.agg #[A C,A D],.string key] c fun g w'=>
   J c w'/\((∃n,(n=3\/n=4\/n=5)/\lS (m.foldl cc c4) (C,D) key=.error n/\g=.returned (.tuple #[.slice none 0 0,A n]))\/
   (∃v M,lS (m.foldl cc c4) (C,D) key=.ok M/\M.length<=240/\g=.returned (.tuple #[v,A 0])/\k1 w' v M)):=by
 have az:=aa t;clear t;generalize k6:m.foldl cc c4=mm;have wB:=aa k6;clear k6;have HKF:=aa (fun W=>abF key W dW);clear dW;go_enter func143,ntmps143;go_wp2_with fail
 refine(Hu (az.o.ae ((apY _ c).alloc (apX _) _)) C D false).mono ?_;rw[wB.o];have E:=aa ((apY c.heap.size c).alloc (apX _) (.cells #[A C,A D] 36));rintro g w1 (⟨n,F,B,rfl,aq⟩|⟨r,w,go,cap,os,F,rfl,dX⟩)
 ·have aP:=aa (And.intro F aq);clear F aq;have P:=aa B;have oR:¬n=0:=by omega
  clear B;go_wp2;go_ret2
  exact⟨E.o.trans (aP.o.2.mono E.o.size),.inl ⟨n,by have :=P.o;omega,by unfold lS;rw[aP.o.1],rfl⟩⟩
 have H1:=aa F;clear F;have z:=aa dX;clear dX;go_wp2_with fail
 refine(HKF.o _).mono ?_;rintro g w2 ⟨rfl,eJ⟩;subst eJ;cases mL:kr key
 ·go_wp2;go_ret2
  exact⟨E.o.trans (z.o.below.mono E.o.size),.inl ⟨5,by omega,by unfold lS;rw[H1.o];simp[mL],rfl⟩⟩
 have Q:=aa z.o.hr;have lB:=aa z.o.cell;have hle:=z.o.len;have qi:=aa hle;clear hle;have k4:=aa z.o.ss;have qX:=z.o.lt;generalize os[r]=y at *;obtain⟨bV,bQ,I,lv,rE,R⟩:=bm Q.o.1;unfold maxLen at rE;have S:=lB.o;rw[I]at S;have kO:=aa (show lS mm (C,D) key=.ok (match(y.ss.map bD.p).find? (fk key (0,0)) with |some s=>s.ad|none=>[]) by
  unfold lS;rw[H1.o];simp only[mL,if_true];have :=k4.o;cases ai:mm[r]? with
  |none=>rw[ai]at this;cases this
  |some o=>rw[ai]at this;simp at this;simp only[hg,this])
 go_wp2_with fail
 refine(CP _ go (r*4) _ y.ss key 0 0 _ lB.o Q.o).mono ?_;rintro g w2 ⟨rfl,U⟩;replace S:=ae U S;have bd:=aa U;clear U;have aE:=yY (hC key (0,0)) y.ss;have kN:=CR (hC key (0,0)) y.ss;have Hv:=aa (Us (l:=y.ss) (key:=key) (x:=(0,0)));have dv:=aa (E.o.trans ((z.o.below.trans (bd.o.mono z.o.below.size)).mono E.o.size));by_cases B:cM (hC key (0,0)) y.ss<0
 ·have aj:cM (hC key (0,0)) y.ss= -1:=by omega
  have P:=aa B;clear aE kN B R;go_wp2;go_ret2
  refine⟨dv.o,.inr ⟨_,[],?_,by simp,rfl,Oe _⟩⟩;rw[kO.o,Hv.o,if_pos P.o]
 obtain⟨q,hi⟩:=arl (a:=cM (hC key (0,0)) y.ss) (by omega);have X:q<y.ss.length:=by omega
 obtain⟨gs,rfl⟩:=R q X;have Y:=aa (Q.o.ae bd.o);rw[I]at Y;obtain⟨dJ,dx,cV,hh⟩:=ib.cells Y.o rfl q X;have L:=Y.o.2 y.ss[q] (ap6 _);obtain⟨lT,vc,dc,_,_,_⟩:=bm L;rw[dc]at hh L;have oS:=aa L;clear L;have OM:=aa B;have cW:=aa hi;clear aE kN B R dJ dx cV;have dT:=aa I;clear I;go_wp2;go_ret2
 refine⟨dv.o,.inr ⟨_,y.ss[q].ad,?_,qi.o.2 _ (ap6 _),rfl,oS.o⟩⟩;rw[kO.o,Hv.o,if_neg (by have :=OM.o;omega),cW.o];simp[X,bD.p]
end Go.Proofs.YtnkpogjiiohapaaGreatDoor
