/- Our own text. -/
import Derived.Deep.DeepCutAuto
import Derived.Deep.RegionLaw
import Derived.Test.YtnkpogjiiohapaaGreatDoorA26
import Derived.Test.YtnkpogjiiohapaaGreatDoorA25
set_option linter.unusedSimpArgs false
set_option linter.unusedVariables false
set_option maxRecDepth 1000000
set_option maxHeartbeats 8000000
namespace Go.Proofs.YtnkpogjiiohapaaGreatDoor
section
open Go.RowKit Tryz
attribute [local go_sem ↓] Go.wp_at_zero Go.wp_at_succ
variable {a d e f i j k l m:Nat}{b h:World}{n:Nat->Nat->Prop}{q:Nat->Prop}{r:Value}
theorem aky(W:World):(Instr.makeChan 151 (A 12)).run prog W=.ok (.chan (some W.heap.size)) (W.alloc (.chan 12 #[] false 0 0 false)):=by
 unfold Instr.makeChan;go_simp
 decide+kernel
theorem akz(w:World):O 127 #[] w fun e a=>e=.returned (Z (w.heap.size+1))/\j2 a (w.heap.size+1) w.heap.size [] false 0 0/\J w a:=by
 have c:=aky w;go_enter func127,ntmps127;go_wp2;go_ret
 have b:(w.alloc (.chan 12 #[] false 0 0 false)).heap.size=w.heap.size+1:=by simp
 refine⟨by simp,⟨?_,?_,by simp⟩,((aoQ _ w).alloc (aoP _) _).alloc (by simp) _⟩
 ·rw[<-b];exact bL _ _
 ·rw[hV _ _ (by simp)];exact heap_alloc_new w _
structure z7 (w wr:World) (b:Nat) (P:Nat->Nat->Prop) (lm:List (PId×Nat)) (gl gc:Nat->Nat->Nat):Prop where
 map:∃es aR,isMap cX QJ wr b lm es aR
 look:∀c d,P c d->bq ((c:Int),(d:Int)) lm=some (gl c d)
 Bu:∀x y:Int,(¬∃c d:Nat,P c d/\x=c/\y=d)->bq (x,y) lm=none
 link:∀c d,P c d->j2 wr (gl c d) (gc c d) [] false 0 0
 inj:∀c d b2 ca,P c d->P b2 ca->gc c d=gc b2 ca->c=b2/\d=ca
 ge:∀c d,P c d->w.heap.size<=gl c d/\w.heap.size<=gc c d
 Si:w.heap.size<=b
 below:J w wr
def z8 (w wr:World) (b:Nat) (P:Nat->Nat->Prop):Prop:=∃a c d,z7 w wr b P a c d
theorem z7.congr{wr}{e:Nat->Nat->Prop}(h:z8 b wr a n)(f:∀c d,e c d↔n c d):z8 b wr a e:=by
 have :e=n:=by funext c d;exact propext (f c d)
 rw[this];exact h
theorem z7.put{w wr b P g t}{l:World}(h:z8 w wr b P){k j:Nat}(S:¬P k j)(p:J wr l)(m:j2 l g t [] false 0 0)(ah:wr.heap.size<=g)(Sa:wr.heap.size<=t):
  ∃F,(Instr.mapUpdate 117 (.map (some b)) (.agg #[A (k:Int),A (j:Int)]) (Z g)).run prog l=.ok () F/\z8 w F b fun c d=>P c d\/(c=k/\d=j):=by
 obtain⟨U,f,i,h⟩:=h;obtain⟨es,aR,u⟩:=h.map;obtain⟨I,L,W,X⟩:=xc PT (u.af p) underlying117 ((k:Int),(j:Int)) g;have fN:=u.lt;have r:aP (fun k=>k=b) l (putObj l b (.map I L)):=aP.put _ rfl;have Y:∀{f i:Nat} {v:World},j2 v f i [] false 0 0->v.heap[b]?=l.heap[b]?->f≠b/\i≠b:=fun{f i v} m aH=>by
  have z:=(u.af p).blk;rw[<-aH]at z;refine⟨fun e=> ?_,fun e=> ?_⟩
  ·have :=m.blk;rw[e,z]at this;cases this
  ·have :=m.oc;rw[e,z]at this;cases this
 have M:∀{f i:Nat},j2 l f i [] false 0 0->j2 (putObj l b (.map I L)) f i [] false 0 0:=fun{f i} m=>by
  obtain⟨B,C⟩:=Y m rfl;exact m.jY (tA B) (tA C)
 have s:∀c d,P c d->f c d<wr.heap.size/\i c d<wr.heap.size:=fun c d a=>⟨aM (h.link c d a).blk,(ao1.1 (h.link c d a).oc).1⟩
 have np:∀c d,P c d->j2 l (f c d) (i c d) [] false 0 0:=fun c d a=>(h.link c d a).jY (p.block _ (s c d a).1) (p.block _ (s c d a).2)
 have Tp:∀c d,P c d->¬(c=k/\d=j):=fun c d a e=>by rw[e.1,e.2]at a;exact S a
 refine⟨_,W,cv ((k:Int),(j:Int)) g U,fun c d=>if c=k/\d=j then g else f c d,fun c d=>if c=k/\d=j then t else i c d,⟨_,_,X⟩,fun c d a=> ?_,fun x y N=> ?_,fun c d a=> ?_,fun c d D E a Q e=> ?_,fun c d a=> ?_,h.Si,?_⟩
 ·rw[h6]
  by_cases e:c=k/\d=j
  ·rw[if_pos (by rw[e.1,e.2]),if_pos e]
  ·rw[if_neg (fun R=>e (by have B:=congrArg Prod.fst R;have C:=congrArg Prod.snd R;simp only at B C;omega)),if_neg e]
   exact h.look c d (a.resolve_right e)
 ·rw[h6,if_neg (fun e=>N ⟨k,j,.inr ⟨rfl,rfl⟩,congrArg Prod.fst e,congrArg Prod.snd e⟩)]
  exact h.Bu x y fun⟨c,d,a,e⟩=>N ⟨c,d,.inl a,e⟩
 ·by_cases e:c=k/\d=j
  ·simp only[e,and_self,if_true]
   exact M m
  ·simp only[e,if_false]
   exact M (np c d (a.resolve_right e))
 ·by_cases n:c=k/\d=j<;>by_cases o:D=k/\E=j
  ·exact⟨n.1.trans o.1.symm,n.2.trans o.2.symm⟩
  ·simp only[n,and_self,if_true,o,if_false]at e
   have :=(s D E (Q.resolve_right o)).2;omega
  ·simp only[n,if_false,o,and_self,if_true]at e
   have :=(s c d (a.resolve_right n)).2;omega
  ·simp only[n,if_false,o]at e
   exact h.inj c d D E (a.resolve_right n) (Q.resolve_right o) e
 ·have An:=h.below.size
  by_cases e:c=k/\d=j
  ·simp only[e,and_self,if_true]
   omega
  ·simp only[e,if_false]
   exact h.ge c d (a.resolve_right e)
 ·have q:=h.below.trans (p.mono h.below.size)
  have J0:=h.Si;exact⟨r.os.trans q.os,r.tape.trans q.tape,r.output.trans q.output,aoS q.size r.size,fun k hk=>(tA (by omega)).trans (q.block k hk)⟩
theorem akA(N:Nat)(v:N<=4)(w:World):O 71 #[A N] w fun e q=>e=.returned (.map (some w.heap.size))/\z8 w q w.heap.size fun c d=>c<N/\d<N/\c≠d:=by
 have x:=EX 117 w;have r:=aa (show z8 w (w.alloc (.map #[] 0)) w.heap.size fun c d=>c<0/\d<N/\c≠d from⟨[],fun _ _=>0,fun _ _=>0,⟨_,_,isMap.fresh cX QJ w⟩,fun c d a=>by omega,fun _ _ _=>rfl,fun c d a=>by omega,fun c d _ _ a=>by omega,fun c d a=>by omega,aoP _,(aoQ w.heap.size w).alloc (aoP _) (.map #[] 0)⟩);go_enter func71,ntmps71;go_wp2_with fail
 go_loopw [8] (fun i wr=>∃k:Nat,k<=N/\i=A k/\z8 w wr w.heap.size fun c d=>c<k/\d<N/\c≠d) (fun i _=>N-(intOf i).toNat)
 case atStart=>exact⟨0,aoR _,rfl,r.o⟩
 case round=>
  obtain⟨k,y,rfl,f⟩:=hrel;have g:=aa f;clear f;by_cases z:k<N
  ·obtain⟨h,s⟩:∃h,h=wr:=⟨_,rfl⟩
   subst s;go_wp2_with fail
   go_loopw [12] (fun i wr=>∃j:Nat,j<=N/\i=A j/\z8 w wr w.heap.size fun c d=>(c<k/\d<N/\c≠d)\/(c=k/\d<j/\c≠d)) (fun i _=>N-(intOf i).toNat)
   case atStart=>exact⟨0,aoR _,rfl,z7.congr g.o (fun c d=>by omega)⟩
   case round=>
    obtain⟨j,B,rfl,l⟩:=hrel;have b:=aa l;clear l;by_cases C:j<N
    ·by_cases t:k=j
     ·subst t
      go_wp2;go_roundw
      case rel=>exact⟨k+1,by omega,by go_num,z7.congr b.o (fun c d=>by omega)⟩
      case measure=>simp[intOf];omega
     ·have D:¬((k:Int)=(j:Int)):=by omega
      go_wp2_with fail
      refine(akz _).mono ?_;rintro e E ⟨rfl,m,n⟩;obtain⟨F,I,p⟩:=z7.put b.o (k:=k) (j:=j) (by omega) n m (by omega) (by omega);have u:=aa p;clear p m n;go_wp2;go_roundw
      case rel=>exact⟨j+1,by omega,by go_num,z7.congr u.o (fun c d=>by omega)⟩
      case measure=>simp[intOf];omega
    ·go_wp2
     go_roundw
     case rel=>exact⟨k+1,by omega,by go_num,z7.congr b.o (fun c d=>by omega)⟩
     case measure=>simp[intOf];omega
  ·go_wp2
   go_ret
   exact⟨rfl,z7.congr g.o (fun c d=>by omega)⟩
structure tu (B:Nat) (w':World) (sp:Int) (ab iu d0 cr ct d aA be:Nat):Prop where
 jM:w'.heap[ab]?=some (.cells #[A sp,A 0,.slice none 0 0,.slice (some (H iu)) 1 1,Z d] 204 (0,0))
 rem:w'.heap[iu]?=some (.cells #[Z d0] 101 (0,0))
 jS:cu w' d0 cr ct hZ.1 hZ.2
 q:cu w' d aA be hZ.1 hZ.2
 ge:B<=ab/\B<=iu/\B<=d0/\B<=cr/\B<=ct/\B<=d/\B<=aA/\B<=be
 ne:cr≠ct/\cr≠aA/\cr≠be/\ct≠aA/\ct≠be/\aA≠be
theorem cu.aap(c:cu b a d e hZ.1 hZ.2)(g:∀k,(k=a\/k=d\/k=e)->h.heap[k]?=b.heap[k]?):cu h a d e hZ.1 hZ.2:=by
 obtain⟨i,j,l⟩:=c.ae;obtain⟨m,n,o⟩:=c.he;refine⟨by rw[g a (.inl rfl)];exact c.ai,⟨i,j,l.gE (g d (.inr (.inl rfl)))⟩,⟨m,n,o.gE (g e (.inr (.inr rfl)))⟩,fun p f=> ?_,fun p f=>by cases f⟩;simp[hZ]at f;subst f;exact⟨.inl ⟨rfl,rfl⟩,fun q r=>by cases r⟩
theorem cu.wV{c f}(h:cu b a d e c f):a<b.heap.size/\d<b.heap.size/\e<b.heap.size:=by
 obtain⟨_,_,g⟩:=h.ae;obtain⟨_,_,i⟩:=h.he;exact⟨aM h.ai,g.lt,i.lt⟩
theorem tu.wV{B w j a b c e f d g i}(h:tu B w j a b c e f d g i):a<w.heap.size/\b<w.heap.size/\c<w.heap.size/\e<w.heap.size/\f<w.heap.size/\d<w.heap.size/\g<w.heap.size/\i<w.heap.size:=
 ⟨aM h.jM,aM h.rem,h.jS.wV.1,h.jS.wV.2.1,h.jS.wV.2.2,h.q.wV.1,h.q.wV.2.1,h.q.wV.2.2⟩
theorem tu.aaq{p}(n:tu m b p a d e f i j k l)(o:∀c,c=a\/c=d\/c=e\/c=f\/c=i\/c=j\/c=k\/c=l->h.heap[c]?=b.heap[c]?):tu m h p a d e f i j k l:=
 ⟨(o _ (.inl rfl)).trans n.jM,(o _ (.inr (.inl rfl))).trans n.rem,n.jS.aap fun c g=>o c (by rcases g with g|g|g<;>simp[g]),n.q.aap fun c g=>o c (by rcases g with g|g|g<;>simp[g]),n.ge,n.ne⟩
theorem tu.af{w b c g}{w':World}(h:tu a w b d f i j l m c g)(n:J w w'):tu a w' b d f i j l m c g:=by
 obtain⟨o,p,q,r,s,t,u,v⟩:=h.wV;refine h.aaq fun k e=>n.block k ?_
 rcases e with e|e|e|e|e|e|e|e<;>omega
theorem tu.mono{w sp}{B':Nat}(h:tu a w sp d e f i j k l m)(b:B'<=a):tu B' w sp d e f i j k l m:=by
 obtain⟨c,g,n,o,p,r,s,t⟩:=h.ge;exact⟨h.jM,h.rem,h.jS,h.q,⟨by omega,by omega,by omega,by omega,by omega,by omega,by omega,by omega⟩,h.ne⟩
theorem akB(h:Int)(w:World):
  O 128 #[A h] w fun e l=>(∃m t b u v d i j,e=.returned (Z m)/\tu w.heap.size l h m t b u v d i j)/\J w l:=by
 have x:=aa (Vu w);go_enter func128,ntmps128;go_wp2_with fail
 refine x.o.mono ?_;rintro e a ⟨⟨b,y,z,rfl,k,R,S,U,B⟩,n⟩;have p:=aa n;clear n;have C:=aa k;have D:=k.wV;clear k;have E:=p.o.size;have F:=aa ((aoQ a.heap.size a).alloc (aoP _) (.cells #[Z b] 101));have I:=aa (Vu (a.alloc (.cells #[Z b] 101)));go_wp2_with fail
 refine I.o.mono ?_;rintro e c ⟨⟨d,i,j,rfl,q,L,M,N,P⟩,f⟩;simp at L M N f;have r:=aa (show c.heap[a.heap.size]?=some (.cells #[Z b] 101 (0,0)) from(f.block a.heap.size (by omega)).trans (bL a _));have s:=aa (F.o.trans (f.mono (by omega)));clear f;have Q:=aa q;clear q;have W:=aM r.o;go_wp2;go_ret
 have g:=(aoQ c.heap.size c).alloc (aoP _) (.cells #[A h,A 0,.slice none 0 0,.slice (some (V a 0)) 1 1,Z d] 204);obtain⟨X,Y,yS⟩:=D;exact⟨⟨c.heap.size,a.heap.size,b,y,z,d,i,j,rfl,bL c _,bj r.o g,(C.o.af s.o).af g,Q.o.af g,⟨by omega,by omega,by omega,by omega,by omega,by omega,by omega,by omega⟩,B,by omega,by omega,by omega,by omega,P⟩,(p.o.trans (s.o.mono E)).trans (g.mono (by omega))⟩
theorem aar(N:Nat):pw N=pK N fun _=>0:=by
 have a:(pw N).toList=List.replicate N (A 0):=by
  unfold pw;have :=toList_madeCells_one (A 0) (N*1);rw[aqf]at this⊢;exact this
 apply Array.ext';rw[a];unfold pK;apply aqz
 ·simp
 ·intro i b c
  simp
theorem akD{o:Obj}(h:a=b.heap.size):(b.alloc o).heap[a]?=some o:=by rw[h];exact bL b o
theorem akE{o:Obj}(h:a≠b.heap.size):(b.alloc o).heap[a]?=b.heap[a]?:=by
 by_cases c:a<b.heap.size
 ·exact hV _ _ c
 ·have d:b.heap[a]?=none:=by simp;omega
  have e:(b.alloc o).heap[a]?=none:=by simp;omega
  rw[d,e]
theorem akF{w:World}(c:J b h)(a:J w b):J w h:=a.trans (c.mono a.size)
structure Sq (w wc:World) (N sp c:Nat) (p:Value) (aY ey ab iu d0 cr ct d aA be il jb:Nat):Prop where
 p:p=Z aY
 blk:wc.heap[aY]?=some (.cells #[A c,A 0,.slice (some (H ey)) N N,Z ab,.map (some il),.map (some jb)] 109 (0,0))
 heard:wc.heap[ey]?=some (.cells (pw N) 3 (0,0))
 early:wc.heap[il]?=some (.map #[] 0)
 new:wc.heap[jb]?=some (.map #[] 0)
 rl:tu w.heap.size wc sp ab iu d0 cr ct d aA be
 ge:w.heap.size<=aY/\w.heap.size<=ey/\w.heap.size<=il/\w.heap.size<=jb
 gg:il≠jb/\(∀k,k=cr\/k=ct\/k=aA\/k=be->il≠k/\jb≠k)
 below:J w wc
def Gh (m:List (Int×Nat)):Prop:=∀d a g,bq d m=some g->bq a m=some g->d=a
theorem Gh.put{m}(h:Gh m){k:Int}(j:∀p∈m,p.2≠a):Gh (cv k a m):=fun d f g c b=>by
 rw[h6]at c b;by_cases i:d=k
 ·by_cases e:f=k
  ·rw[i,e]
  ·rw[if_neg e]at b
   rw[if_pos i]at c;cases c;exact absurd rfl (j _ (fQ b))
 ·rw[if_neg i]at c
  by_cases e:f=k
  ·rw[if_pos e]at b
   cases b;exact absurd rfl (j _ (fQ c))
  ·rw[if_neg e]at b
   exact h d f g c b
def MV (wc wr:World) (N c k a:Nat) (m:List (Int×Nat)):Prop:=(∃b e,isMap xY (PV N) wr a m b e)/\(∀p∈m,wr.heap[p.2]?=some (.cells (pw N) 3 (0,0))/\wc.heap.size<=p.2)/\((∀d:Nat,d<k->d≠c->∃g,bq (d:Int) m=some g)/\Gh m/\(∀p∈m,∃d:Nat,d<N/\d≠c/\p.1=(d:Int))/\(m.map (·.1)).Nodup)/\aP (fun k=>k=a) wc wr
def aas (w a:World) (N b c e:Nat) (q:fU):Prop:=dx a e (fun k=>w.heap.size<=k/\k<a.heap.size) (fun _=>False) N b c 0 (fun _=>0) [] [] q/\q.D0=(hZ,[])/\(∀d:Nat,d<N->d≠c->∃g,bq (d:Int) q.kV=some g)/\(Gh q.kV/\(∀p∈q.kV,∃d:Nat,d<N/\d≠c/\p.1=(d:Int))/\(q.kV.map (·.1)).Nodup)/\∀g,q.eb g=List.replicate N 0
theorem aat(f:a≠d)(g:¬q a)(h:¬q d):fR a d q hZ.1 hZ.2:=by
 refine⟨f,g,h,fun p c b e=> ?_,fun p c k i b e=> ?_,fun p c=>by cases c⟩
 ·simp[hZ]at c
  subst c;cases e
 ·simp[hZ]at c
  subst c;cases i
theorem Sq.rep{wc wr D aY X p Y E u}(h:Sq b wc l D a r aY X d m k e f p i j Y E)(hm:MV wc wr l a l E u)(hc:a<l)(hN:l<=4)(h1:1<=D)(h2:D<=50):(∃q,aas b wr l D a aY q)/\J b wr:=by
 obtain⟨⟨F,I,hf⟩,fb,uf,C⟩:=hm;have z:∀g,g<wc.heap.size->g≠E->wr.heap[g]?=wc.heap[g]?:=fun g y L=>C.other g y L
 have B:∀g a t n,wc.heap[g]?=some (.cells a t n)->g≠E:=fun g a t n y c=>by rw[c,h.new]at y;cases y
 obtain⟨g1,g2,g3,g4⟩:=h.ge;obtain⟨u1,u2,u3,u4,u5,u6,u7,u8⟩:=h.rl.ge;obtain⟨dz,cy,yS,Fv,Sl,Sm,Sn,Sp⟩:=h.rl.wV;obtain⟨c4,cm,nD,Ln,n5,n6⟩:=h.rl.ne;have oj:=(z _ (aM h.blk) (B _ _ _ _ h.blk)).trans h.blk;have ea:=(z _ (aM h.heard) (B _ _ _ _ h.heard)).trans h.heard;have an1:=(ao1.1 h.early).1;have e3:=(z _ an1 h.gg.1).trans h.early;have P:tu b.heap.size wr D d m k e f p i j:=h.rl.aaq fun g c=>by
  rcases c with rfl|rfl|rfl|rfl|rfl|rfl|rfl|rfl
  ·exact z _ dz (B _ _ _ _ h.rl.jM)
  ·exact z _ cy (B _ _ _ _ h.rl.rem)
  ·exact z _ yS (B _ _ _ _ h.rl.jS.ai)
  ·exact z _ Fv (ao5 (h.gg.2 _ (.inl rfl)).2)
  ·exact z _ Sl (ao5 (h.gg.2 _ (.inr (.inl rfl))).2)
  ·exact z _ Sm (B _ _ _ _ h.rl.q.ai)
  ·exact z _ Sn (ao5 (h.gg.2 _ (.inr (.inr (.inl rfl)))).2)
  ·exact z _ Sp (ao5 (h.gg.2 _ (.inr (.inr (.inr rfl)))).2)
 have fN:J b wr:=⟨C.os.trans h.below.os,C.tape.trans h.below.tape,C.output.trans h.below.output,aoS h.below.size C.size,fun g y=>(C.other g (aoV y h.below.size) (by omega)).trans (h.below.block g y)⟩;have EG:=C.size;have lb:=aM h.blk;have aou:=aM h.heard;have aov:=hf.lt;have Q:∀{g:Nat} {a:Array Value} {t:TypeId} {n:Nat×Nat},wc.heap[g]?=some (.cells a t n)->g≠Y:=fun{g a t n} y c=>by rw[c,h.early]at y;cases y
 have R:∀{g s:Nat} {a:Array Value} {t:TypeId} {n:Nat×Nat},wc.heap[g]?=some (.cells a t n)->(∃F I,isMap cX pn wc s hZ.1 F I)\/(∃F I,isMap cX oI wc s hZ.2 F I)->g≠s:=fun{g s a t n} y d c=>by
  rcases d with⟨_,_,d⟩|⟨_,_,d⟩<;>(have :=d.blk;rw[<-c,y]at this;cases this)
 have S:∀{g Sr:Nat} {a b2:Array Value} {t k3:TypeId} {n:Nat×Nat},wc.heap[g]?=some (.cells a t n)->wc.heap[Sr]?=some (.cells b2 k3 n)->t≠k3->g≠Sr:=fun{g Sr a b2 t k3 n} y cM L c=>by
  rw[c,cM]at y;injection y with y;injection y with _ y;exact L y.symm
 have M:=h.rl.jS;have N:=h.rl.q;have aau:∀{g:Nat} {a:Array Value} {t:TypeId},wc.heap[g]?=some (.cells a t (0,0))->t≠204->t≠101->t≠174->¬(g=d\/g=m\/g=k\/g=e\/g=f\/g=p\/g=i\/g=j):=fun{g a t} y U a2 a3 c=>by
  rcases c with c|c|c|c|c|c|c|c
  ·exact S y h.rl.jM U c
  ·exact S y h.rl.rem a2 c
  ·exact S y M.ai a3 c
  ·exact R y (.inl M.ae) c
  ·exact R y (.inr M.he) c
  ·exact S y N.ai a3 c
  ·exact R y (.inl N.ae) c
  ·exact R y (.inr N.he) c
 have aav:nu [(⟨k,e,f,hZ⟩:lh)] i j=[e,f,i,j]:=rfl;have W:∀g,(g=e\/g=f\/g=i\/g=j)->¬oo (fun g=>g=d\/g=m\/g=k\/g=e\/g=f\/g=p\/g=i\/g=j) [(⟨k,e,f,hZ⟩:lh)] i j g:=fun g y ay=>ay.2 (by rw[aav];simpa using y)
 refine⟨⟨⟨X,d,Y,E,0,p,i,j,.slice none 0 0,.slice (some (H m)) 1 1,[⟨k,e,f,hZ⟩],(hZ,[]),hZ,u,fun _=>List.replicate l 0,fun g=>g=d\/g=m\/g=k\/g=e\/g=f\/g=p\/g=i\/g=j⟩,⟨oj,by rw[<-aar];exact ea,?_,by simp,List.Pairwise.nil,⟨#[],0,⟨e3,rfl,by simp,by simp⟩⟩,fun r ag=>(by cases ag),⟨F,I,hf⟩,?_,hc,hN,⟨g1,aoV lb EG⟩,⟨g2,aoV aou EG⟩,⟨g3,aoV an1 EG⟩,⟨g4,aov⟩,?_,?_,?_,?_,?_,h.gg.1,fun g y=>y.2,fun g y=>y.elim⟩,rfl,fun ca gL L=>uf.1 ca gL L,uf.2,fun _=>rfl⟩,fN⟩
 ·refine⟨P.jM,ao9 _ _ _ _,fun o ae=>(by cases ae),?_,h1,h2,h1,aoP _,by simp,?_,?_,P.q,aat n6 (W _ (by simp)) (W _ (by simp)),fG.root,rfl,?_,.inl rfl,fun g y=>(by cases y),fun g y=>(by cases y;exact .inr (.inl rfl)),?_,by simp,by simp,by simp,?_,fun g y=>y.elim,fun g y=>y.elim⟩
  ·exact⟨by simp[iD],.inr ⟨m,1,_,rfl,aoR _,P.rem,by simp,by unfold maxLen;simp,by simp,by simp[iD]⟩⟩
  ·intro v aI
   obtain rfl:=ao2.1 aI;exact⟨P.jS,aat c4 (W _ (by simp)) (W _ (by simp)),fG.root⟩
  ·intro w ar
   have :w=0:=by simpa using ar
   subst this;show mN hZ (List.take (0*D-0) []) hZ;rw[List.take_nil];rfl
  ·rw[aav]
   simp;omega
  ·intro v aI
   obtain rfl:=ao2.1 aI;simp
  ·intro g y
   rcases y with c|c|c|c|c|c|c|c<;>omega
 ·intro r ag
  obtain⟨U,a2⟩:=fb r ag;refine⟨⟨by simp,?_⟩,by show r.2≠X;omega,⟨by omega,aM U⟩,?_⟩
  ·rw[U,aar]
   unfold pK;congr 3;rw[List.map_replicate];exact aqz (by simp) fun x _ _=>by simp
  ·intro c
   rcases c with c|c|c|c|c|c|c|c<;>omega
 ·intro g y
  show b.heap.size<=g/\g<wr.heap.size;rcases y with c|c|c|c|c|c|c|c<;>omega
 ·exact aau h.blk (by decide) (by decide) (by decide)
 ·exact aau h.heard (by decide) (by decide) (by decide)
 ·intro c
  rcases c with c|c|c|c|c|c|c|c
  ·exact Q h.rl.jM c.symm
  ·exact Q h.rl.rem c.symm
  ·exact Q M.ai c.symm
  ·exact(h.gg.2 _ (.inl rfl)).1 c
  ·exact(h.gg.2 _ (.inr (.inl rfl))).1 c
  ·exact Q N.ai c.symm
  ·exact(h.gg.2 _ (.inr (.inr (.inl rfl)))).1 c
  ·exact(h.gg.2 _ (.inr (.inr (.inr rfl)))).1 c
 ·intro c
  rcases c with c|c|c|c|c|c|c|c
  ·exact B _ _ _ _ h.rl.jM c.symm
  ·exact B _ _ _ _ h.rl.rem c.symm
  ·exact B _ _ _ _ M.ai c.symm
  ·exact(h.gg.2 _ (.inl rfl)).2 c
  ·exact(h.gg.2 _ (.inr (.inl rfl))).2 c
  ·exact B _ _ _ _ N.ai c.symm
  ·exact(h.gg.2 _ (.inr (.inr (.inl rfl)))).2 c
  ·exact(h.gg.2 _ (.inr (.inr (.inr rfl)))).2 c
theorem akG(c N l:Nat)(hc:c<N)(R:N<=4)(n:1<=l)(h2:l<=50)(w:World):
  O 72 #[A c,A N,A l] w fun e S=>(∃j,e=.returned (Z j)/\∃q,aas w S N l c j q)/\J w S:=by
 have Gr:=Oj N R;have mn:=EX 106;have o3:=EX 107;have vY:=aa (akB (l:Int));go_enter func72,ntmps72;go_wp2_with fail
 go_cut [7,11,13,14,15] (fun p s h m1 m2 wc=>∃j I t u v x y d z B L f,s=.slice (some (H I)) N N/\h=Z t/\m1=.map (some L)/\m2=.map (some f)/\Sq w wc N l c p j I t u v x y d z B L f)
 case first =>
  go_region_with (first |(go_at_call 128;refine(vY.o _).mono ?_;rintro e w1 ⟨⟨t,u,v,x,y,d,z,B,rfl,C⟩,D⟩;have dr:=aa (akF (w:=w) D (by go_grown));obtain⟨dz,cy,yS,Fv,Sl,Sm,Sn,Sp⟩:=C.wV;obtain⟨g1,g2,g3,g4,g5,g6,g7,g8⟩:=C.ge;(try simp at g1 g2 g3 g4 g5 g6 g7 g8);have bJ:=D.size;(try simp at bJ);have KD:=aa (C.mono (B':=w.heap.size) (by simp <;>omega));have ax:=aa D;clear C D))
  all_goals(go_wp2_with fail;go_meet)
  all_goals refine⟨_,_,t,u,v,x,y,d,z,B,_,_,rfl,rfl,rfl,rfl,rfl,?_,?_,?_,?_,KD.o.af (by go_grown),⟨by omega,by omega,by omega,by omega⟩,⟨by omega,fun k hk=>by omega⟩,dr.o.trans (Below.mono (by go_grown:J w1 _) (by omega))⟩
  all_goals repeat' (first
   |exact akD (by first |rfl|omega|(simp;done)|(simp;omega))
   |(refine(akE (by first |omega|(simp;done)|(simp;omega))).trans ?_)
   |(refine(ax.o.block _ (by first |omega|(simp;done)|(simp;omega))).trans ?_))
 case rest=>
  obtain⟨j,I,t,u,v,x,y,d,z,B,L,f,rfl,rfl,rfl,rfl,E⟩:=hcut;have b:=E.p;subst b;have r:=aa E;have im:wc.cell? (K j 5)=some (.map (some f)):=by simp[World.cell?,E.blk]
  clear E mn o3;have Sk:=aa (show MV wc wc N c 0 f [] from⟨⟨#[],0,⟨r.o.new,rfl,by simp,by simp⟩⟩,fun p b=>(by cases b),⟨fun d ai=>absurd ai (ap5 _),fun d F g n=>(by cases n),fun p b=>(by cases b),apT⟩,aP.cQ (aoQ _ _)⟩);have od:=aM r.o.blk;go_wp2_with fail
  go_loopw [19] (fun i wr=>∃k:Nat,k<=N/\i=A k/\∃m,MV wc wr N c k f m) (fun i _=>N-(intOf i).toNat)
  case atStart=>exact⟨0,aoR _,rfl,_,Sk.o⟩
  case round=>
   obtain⟨k,hk,rfl,m,U⟩:=hrel;have a:=aa U;clear U;have d5:wr.cell? (K j 5)=some (.map (some f)):=a.o.2.2.2.cell (fun e=>by have n:=r.o.blk;rw[e,r.o.new]at n;cases n) im;have adC:j<wr.heap.size:=aoV od a.o.2.2.2.size;by_cases aE:k<N
   ·by_cases W:k=c
    ·subst W
     go_wp2;go_roundw
     case rel=>exact⟨k+1,by omega,by go_num,m,a.o.1,a.o.2.1,⟨fun F gL X=>a.o.2.2.1.1 F (by omega) X,a.o.2.2.1.2⟩,a.o.2.2.2⟩
     case measure=>simp[intOf];omega
    ·have X:¬((k:Int)=(c:Int)):=by omega
     have M:=aa (show J wr ((wr.alloc (.cells (pw N) 3)).drew) from((aoQ wr.heap.size wr).alloc (aoP _) (.cells (pw N) 3)).drew);obtain⟨es,aR,P⟩:=a.o.1;have anR:=P.lt;have HMA:=aa (P.af M.o);clear P;obtain⟨eV,fo,fa,Y⟩:=xc WV HMA.o underlying107 (k:Int) wr.heap.size;simp only[xY,PV]at fa;have Qi:=aa Y;clear Y;have pr:=aa (show MV wc (putObj ((wr.alloc (.cells (pw N) 3)).drew) f (.map eV fo)) N c (k+1) f (cv (k:Int) wr.heap.size m) from by
      refine⟨⟨_,_,Qi.o⟩,fun p b=> ?_,⟨fun F gL akH=> ?_,a.o.2.2.1.2.1.put fun p b e=> ?_,fun p b=> ?_,CS a.o.2.2.1.2.2.2⟩,(a.o.2.2.2.trans (aP.cQ M.o)).trans (aP.put _ rfl)⟩
      ·have Q:p.2≠f/\((wr.alloc (.cells (pw N) 3)).drew).heap[p.2]?=some (.cells (pw N) 3 (0,0))/\wc.heap.size<=p.2:=by
        rcases og b with b|rfl
        ·obtain⟨b1,a2⟩:=a.o.2.1 p b
         refine⟨fun e=> ?_,(M.o.block _ (aM b1)).trans b1,a2⟩;have :=(ao1.1 r.o.new).1;omega
        ·have EG:=a.o.2.2.2.size
         exact⟨by show wr.heap.size≠f;omega,bL wr _,EG⟩
       exact⟨(tA Q.1).trans Q.2.1,Q.2.2⟩
      ·rw[h6]
       split
       ·exact⟨_,rfl⟩
       ·exact a.o.2.2.1.1 F (by omega) akH
      ·have :=aM (a.o.2.1 p b).1
       omega
      ·rcases og b with b|rfl
       ·exact a.o.2.2.1.2.2.1 p b
       ·exact⟨k,aE,W,rfl⟩)
     have anS:=Gr;go_wp2_with fail
     go_region
     all_goals go_wp2
     all_goals go_roundw
     all_goals first
      |exact⟨k+1,by omega,by go_num,_,pr.o⟩
      |(simp[intOf];omega)
   ·have hL:k=N:=by omega
    subst hL;go_wp2;go_ret
    obtain⟨ao,fN⟩:=r.o.rep a.o hc R n h2;exact⟨⟨j,rfl,ao⟩,fN⟩
def BV (a:World) (b:Nat) (F:Nat->Prop) (N e c:Nat) (q:fU):Prop:=dx a b F (fun _=>False) N e c 0 (fun _=>0) [] [] q/\q.D0=(hZ,[])/\(∀d:Nat,d<N->d≠c->∃g,bq (d:Int) q.kV=some g)/\(Gh q.kV/\(∀p∈q.kV,∃d:Nat,d<N/\d≠c/\p.1=(d:Int))/\(q.kV.map (·.1)).Nodup)/\∀g,q.eb g=List.replicate N 0
theorem BV.gB{w d F N sp c q}{a:World}(h:BV w d F N sp c q)(e:w.heap.size<=a.heap.size)(b:∀k,F k->a.heap[k]?=w.heap[k]?):BV a d F N sp c q:=⟨h.1.gB e b (fun _ b=>b.elim),h.2⟩
theorem BV.af{w c b}{w':World}(h:BV w a q d e c b)(f:J w w'):BV w' a q d e c b:=h.gB f.size fun k g=>f.block k (h.1.lt k g)
structure Gi (w wr:World) (N sp r jT:Nat) (aG:Value) (l:List Nat) (ia:Nat->Nat->Prop) (q:Nat->fU):Prop where
 blk:wr.heap[r]?=some (.cells #[aG,.map (some jT)] 119 (0,0))
 row:wr.ownsRow 0 92 1 aG l.length (l.flatMap iD)
 eM:∀c (hc:c<l.length),BV wr l[c] (ia c) N sp c (q c)
 new:∀c,c<l.length->∀j,ia c j->w.heap.size<=j
 jy:∀c b2,c<l.length->b2<l.length->c≠b2->∀k,ia c k->¬ia b2 k
 pL:∀c,c<l.length->¬ia c r
 zE:∀c,c<l.length->∀g,aG.ownBlock=some g->¬ia c g
 Ss:w.heap.size<=r
 St:∀g,aG.ownBlock=some g->w.heap.size<=g
 below:J w wr
theorem Gi.step{w wr r x l q qn}{y:Value}(m:Gi w wr d e r f x l n q)(z:J wr b)(gh:BV b a (fun k=>wr.heap.size<=k/\k<b.heap.size) d e l.length qn)(o:Obj)(U:h.ownsRow 0 92 1 y (l.length+1) ((l++[a]).flatMap iD))(C:(b.alloc o).grownBy h x.ownBlock)(oL:iT (b.alloc o) x y):
  Gi w (h.setCell (H r) y) d e r f y (l++[a]) (fun c=>if c=l.length then fun k=>wr.heap.size<=k/\k<b.heap.size else n c) (fun c=>if c=l.length then qn else q c):=by
 have od:=aM m.blk;have W:=z.size;have hrC:x.ownBlock≠some r:=fun p=>by
  obtain⟨cur,t⟩:=bt m.row p;exact absurd (bz t m.blk) (by decide)
 have F:∀k,k<b.heap.size->some k≠x.ownBlock->h.heap[k]?=b.heap[k]?:=fun k s I=>(C.block k (by simp;omega) I).trans (hV _ _ s)
 have P:∀g,y.ownBlock=some g->g<b.heap.size->x.ownBlock=some g:=fun g v Q=>by
  rcases oL with R|R
  ·rw[<-R];exact v
  ·have :=R g v;simp at this;omega
 have X:h.heap[r]?=some (.cells #[x,.map (some f)] 119 (0,0)):=(F r (by omega) (ao5 hrC)).trans ((z.block r od).trans m.blk);have akI:y.ownBlock≠some r:=fun p=>by
  obtain⟨cur,t⟩:=bt U p;exact absurd (bz t X) (by decide)
 have B:(l++[a]).length=l.length+1:=by simp
 have S:b.heap.size<=(h.setCell (H r) y).heap.size:=by have :=C.size;simp[World.setCell]at this⊢;omega
 have Y:∀g,x.ownBlock=some g->g<wr.heap.size:=fun g v=>(aoT m.row g v).2
 refine⟨?_,?_,?_,?_,?_,?_,?_,m.Ss,?_,?_⟩
 ·have :=setRow (i:=0) (u:=y) X
  simpa using this
 ·rw[B];exact iW U akI _
 ·intro c t
  rw[B]at t;by_cases p:c=l.length
  ·subst p
   simp only[if_true,List.getElem_concat_length];refine gh.gB S fun k s=>(dI (by omega)).trans (F k s.2 (fun p=> ?_))
   have :=Y k p.symm;omega
  ·have D:c<l.length:=by omega
   simp only[p,if_false];rw[aqn D];refine((m.eM c D).af z).gB S fun k s=>(dI (show k≠r from fun p=>m.pL c D (p▸s))).trans (F k (aoV ((m.eM c D).1.lt k s) W) (fun p=>m.zE c D k p.symm s))
 ·intro c t j L
  by_cases p:c=l.length
  ·subst p
   simp only[if_true]at L;exact aoS m.below.size L.1
  ·simp only[p,if_false]at L
   exact m.new c (by rw[B]at t;omega) j L
 ·intro c M t b7 I k s E
  rw[B]at t b7;by_cases p:c=l.length
  ·subst p
   have N:¬M=l.length:=fun p=>I p.symm
   simp only[if_true]at s;simp only[N,if_false]at E;have :=(m.eM M (by omega)).1.lt k E;omega
  ·simp only[p,if_false]at s
   by_cases N:M=l.length
   ·subst N
    simp only[if_true]at E;have :=(m.eM c (by omega)).1.lt k s;omega
   ·simp only[N,if_false]at E
    exact m.jy c M (by omega) (by omega) I k s E
 ·intro c t hF
  rw[B]at t;by_cases p:c=l.length
  ·subst p
   simp only[if_true]at hF;omega
  ·simp only[p,if_false]at hF
   exact m.pL c (by omega) hF
 ·intro c t g v hF
  rw[B]at t;by_cases p:c=l.length
  ·subst p
   simp only[if_true]at hF;have :=Y g (P g v hF.2);omega
  ·simp only[p,if_false]at hF
   have Q:=(m.eM c (by omega)).1.lt g hF;exact m.zE c (by omega) g (P g v (by omega)) hF
 ·intro g v
  by_cases Q:g<b.heap.size
  ·exact m.St g (P g v Q)
  ·have :=m.below.size;omega
 ·refine⟨C.os.trans (z.os.trans m.below.os),C.tape.trans (z.tape.trans m.below.tape),C.output.trans (z.output.trans m.below.output),aoS (aoS m.below.size W) S,fun k s=> ?_⟩
  have An:=m.below.size;have po:=m.Ss;rw[dI (by omega),F k (by omega) (fun p=>by have :=m.St k p.symm;omega),z.block k (by omega),m.below.block k s]
theorem akJ(l:List Nat):l.flatMap iD=(List.range l.length).flatMap fun c=>iD (l.getD c 0):=by
 have :l=(List.range l.length).map fun c=>l.getD c 0:=by
  apply aqz
  ·simp
  ·intro i a b
   simp[a]
 conv=>lhs;rw[this]
 rw[List.flatMap_map]
def s0:bO:=⟨fun _=>0,fun _ _=>0,fun _=>[],fun _=>[],fun _=>[],fun _=>[],fun _ _ _=>0,fun _ _=>[],fun _ _=>false⟩
theorem ok0:hP a (fun _=>[]) s0:=by
 refine⟨⟨fun c _ i l=>(by cases l),fun c _=>(by simp),fun c _=>List.Pairwise.nil⟩,fun c b=>⟨fun e n=>⟨apY _,by simp[s0]⟩,?_,fun o q=>(by cases q),fun p r=>(by cases r),apT⟩,fun c b=>rfl,fun c b=>List.Pairwise.nil,fun c b=>⟨apY _,fun g _ h=>h⟩,fun e n y f=>(by cases f),fun c d _ _ _ m j=>(by cases j),fun c b=>rfl,fun c d _ _ _ m j=>(by cases j),fun c d _ _ _=>⟨fun i _=>⟨apY _,apY _⟩,fun y f=>(by cases f)⟩,fun c b g k=>(by cases k),fun c b g k=>(by cases k)⟩;have :nV (fun _=>[]) (s0.has c) a=[]:=by
  unfold nV;simp
 rw[this];exact .refl _
theorem md0:Bz a (fun _=>[]):=fun c _ i b=>by cases b
theorem Gi.room{wr l q}(m:Gi b wr d f i e r l n q)(R:z8 h b e fun c j=>c<d/\j<d/\c≠j)(S:l.length=d)(h1:1<=d)(U:d<=4):∃x,dJ wr i (fun k=>h.heap.size<=k/\k<wr.heap.size) (fun _=>False) d f (fun _=>[]) s0 x:=by
 obtain⟨a,W,o,kx,fZ,X⟩:=bp m.row;obtain⟨D,E⟩:=X 0 (by omega);subst E;subst o;subst S;obtain⟨Y,F,I,w⟩:=R;obtain⟨es,aR,M⟩:=w.map;have L:=m.below.size;have N:=w.below.size;have po:=m.Ss;have xI:=m.St D rfl;have B:∀c j,c<l.length/\j<l.length/\c≠j->F c j<b.heap.size/\I c j<b.heap.size:=fun c j C=>⟨aM (w.link c j C).blk,(ao1.1 (w.link c j C).oc).1⟩
 have P:=M.lt;have J0:=w.Si;refine⟨⟨D,W,e,Y,fun c=>l.getD c 0,n,q,F,I,fun _ _=>[],fun _ _=>0,fun _ _=>0⟩,⟨m.blk,by rw[<-akJ];exact m.row,U,fun c t=> ?_,fun c t=> ?_,fun c t=>rfl,fun c j t u v=>(by
  obtain⟨g,ah⟩:=(m.eM c t).2.2.1 j u (ao5 v);refine⟨g,ah,fun s hi=> ?_⟩;rw[(m.eM c t).2.2.2.2 g];simp[rowOf,s0,hi]),fun c t=>(m.eM c t).2.2.2.1,⟨es,aR,M.gE (m.below.block _ P)⟩,fun c j t u v=>w.look c j ⟨t,u,v⟩,fun x y ff=>w.Bu x y fun⟨c,j,⟨fL,kM,mJ⟩,aj,E⟩=>ff ⟨c,j,fL,kM,mJ,aj,E⟩,fun c j t u v=>(w.link c j ⟨t,u,v⟩).jY (m.below.block _ (B c j ⟨t,u,v⟩).1) (m.below.block _ (B c j ⟨t,u,v⟩).2),fun _ _ _ _ _=>trivial,fun c j b2 ca t u v b7 gL akK o=>w.inj c j b2 ca ⟨t,u,v⟩ ⟨b7,gL,akK⟩ o,fun c t k z=>⟨aoS N (m.new c t k z),(m.eM c t).1.lt k z⟩,m.jy,m.pL,fun c t=>m.zE c t D rfl,fun c t hF=> ?_,fun o Q c j t u v=>⟨fun hF=> ?_,fun hF=> ?_⟩,⟨by omega,aM m.blk⟩,⟨aoS N xI,(aoT m.row D rfl).2⟩,⟨J0,aoV P L⟩,fun c j t u v=> ?_,fun k z=>z.2,fun k z=>z.elim,fun k z=>z.elim⟩,ok0,md0⟩
 ·have :=(m.eM c t).1
  show dx wr (l.getD c 0) _ _ _ _ _ _ _ _ _ _;rw[aq1,apH t];exact this
 ·rw[(m.eM c t).2.1]
  exact⟨eA.root,fG.root,fun p C=>(by simp[hZ]at C;subst C;rfl),rfl⟩
 ·have :b.heap.size<=e:=m.new c t _ hF
  omega
 ·have h2:b.heap.size<=F c j:=m.new o Q _ hF
  have ak:=(B c j ⟨t,u,v⟩).1;omega
 ·have h2:b.heap.size<=I c j:=m.new o Q _ hF
  have ak:=(B c j ⟨t,u,v⟩).2;omega
 ·obtain⟨b1,a2⟩:=w.ge c j ⟨t,u,v⟩
  obtain⟨bx,bT⟩:=B c j ⟨t,u,v⟩;exact⟨⟨b1,aoV bx L⟩,⟨a2,aoV bT L⟩⟩
theorem akL(n s:Int)(h:¬(1<=n/\n<=4/\1<=s/\s<=50))(w:World):
  O 37 #[A n,A s] w fun e a=>e=.returned (.tuple #[.pointer none,A 1])/\a=w:=by
 by_cases b:n<1
 ·clear h
  go_enter func37,ntmps37;go_wp2;go_ret2
  exact⟨rfl,rfl⟩
 ·by_cases c:4<n
  ·clear h
   go_enter func37,ntmps37;go_wp2;go_ret2
   exact⟨rfl,rfl⟩
  ·by_cases d:s<1
   ·clear h
    go_enter func37,ntmps37;go_wp2;go_ret2
    exact⟨rfl,rfl⟩
   ·have f:50<s:=by omega
    clear h;go_enter func37,ntmps37;go_wp2;go_ret2
    exact⟨rfl,rfl⟩
theorem akM(N n:Nat)(S:1<=N)(u:N<=4)(U:1<=n)(X:n<=50)(w:World):
  O 37 #[A N,A n] w fun e v=>J w v/\∃r x,e=.returned (.tuple #[Z r,A 0])/\dJ v r (fun k=>w.heap.size<=k/\k<v.heap.size) (fun _=>False) N n (fun _=>[]) s0 x:=by
 have Y:=aa (akA N u w);go_enter func37,ntmps37;go_wp2_with fail
 refine Y.o.mono ?_;rintro e b ⟨rfl,y⟩;have sX:=aa y;have B:=aa (show J w b by obtain⟨_,_,_,cl⟩:=y;exact cl.below);clear y;have hz1:=B.o.size;go_wp2_with fail
 go_loopw [27] (fun i wr=>∃C l D q,l.length<=N/\i=A (l.length:Int)/\Gi b wr N n b.heap.size w.heap.size C l D q) (fun i _=>N-(intOf i).toNat)
 case atStart=>
  refine⟨.slice none 0 0,[],fun _ _=>False,fun _=>⟨0,0,0,0,0,0,0,0,.slice none 0 0,.slice none 0 0,[],(hZ,[]),hZ,[],fun _=>[],fun _=>False⟩,aoR _,rfl,bL b _,ao9 _ _ _ _,fun c d=>(by cases d),fun c d=>(by cases d),fun c b2 d=>(by cases d),fun c d=>(by cases d),fun c d=>(by cases d),aoP _,fun g ah=>(by cases ah),(aoQ _ b).alloc (aoP _) _⟩
 case round=>
  obtain⟨C,l,D,q,hl,rfl,m⟩:=hrel;by_cases aE:l.length<N
  ·have iA:=aa (fun W (ab:J wr W)=>akG l.length N n aE u U X W)
   obtain⟨a,E,rfl,kx,fZ,aD⟩:=bp m.row;clear aD;unfold maxLen at fZ;obtain⟨s,a6⟩:=bh m.blk;have od:=aM m.blk;have br:=World.new_ne wr (V b 0) s;have f:=aa m;clear m;have Dd:=aa (show some b.heap.size≠(Value.slice a l.length E).ownBlock from fun e=>by
    obtain⟨cur,d⟩:=bt f.o.row e.symm;exact absurd (bz d f.o.blk) (by decide))
   have k9:=aa (show J wr wr.drew from(aoQ _ wr).drew);go_wp2_with fail
   go_region_law (first
    |(go_simp;go_at_call 72;refine(iA.o _ k9.o).mono ?_;rintro e j ⟨⟨t,rfl,qn,F⟩,I⟩;have p:=Hq.o (mq I);clear I;replace s:=af p s;have mM:=p.size;have De:b.heap.size<j.heap.size:=(by omega);have Wr:=World.new_ne j (V b 0) s;have ez:=aa (bj f.o.blk p);have lM:=aa (c5 f.o.row p);have bK:=aa p;have ht:=aa F;clear p F;have bM:=aa (show J j (j.alloc (.cells #[Z t] 92)) from(aoQ _ j).alloc (aoP _) _);dsimp only)
    |(refine xi iD 1 8 116 92 (.pointer none) (by kernel_rfl) underlying116 rfl (by omega) (fun _=>rfl) (by rfl) (.tmp 34) (.tmp 39) (by rfl) 0 (.slice a l.length E) l (by rfl) (c5 lM.o bM.o) j.heap.size 1 t (by rfl) (O4 (LV (bL j _))) (O3 t) (by omega) (by unfold maxLen;omega) (aoR _) ?_;intro v4 w4 L z M;have P:=aa L;have kF:=aa z;have jw:=aa M;have Q:w4.heap[b.heap.size]?=j.heap[b.heap.size]?:=((z.block b.heap.size (by simp;omega) (Dd.o)).trans (hV _ _ De));have R:=aa (Q.trans ez.o);clear Q L z M;obtain⟨a4,kc,rfl,q0,ta,ub⟩:=bp P.o;clear q0 ta ub;replace s:=(bh R.o).1;have vH:=cS R.o 0))
   all_goals go_wp2
   all_goals go_roundw
   all_goals first
    |(simp[intOf];omega)
    |exact⟨_,l++[t],_,_,by simp;omega,by simp,f.o.step bK.o (qn:=qn) ht.o _ P.o kF.o jw.o⟩
  ·have f:=aa m;clear m
   go_wp2;go_ret2
   obtain⟨x,al⟩:=f.o.room sX.o (by omega) S u;exact⟨B.o.trans (f.o.below.mono hz1),b.heap.size,x,rfl,al⟩
def akN (s:bO) (x:dc) (c:Nat) (a b:Int) (d:ByteArray) (w:World) (e:Ending) (g:World):Prop:=J w g/\
   ((∃m,lQ (cn (s.ops c)) (a,b) d=.error m/\e=.returned (.tuple #[.slice none 0 0,A m]))\/
   (∃o u,∃f:List (PId×dR),bl (cn (s.ops c)) (a,b)=some o/\o.list=false/\km d=true/\e=.returned (.tuple #[u,A 0])/\f.Perm (eY (x.q c).D.1 (x.q c).D.2 (a,b) d (0,0)).aB/\mR (f.map (·.1))/\nL w.heap.size g u (f.map (·.2))))
theorem akO{F I M s x}(h:dJ b d F I e f M s x)(p:a<e)(g i:Int)(j:ByteArray)(Y:j.size<=maxLen):
  O 24 #[Z d,A a,.agg #[A g,A i],.string j] b fun c w'=>akN s x a g i j b c w':=by
 have v:=aa ((aoQ b.heap.size b).alloc (aoP _) (.cells #[A g,A i] 36));have bR:=aa (L6 (h.af v.o) a p g i j Y);have fO:=aa (fun W (w:J b W)=>x5 ((h.af w).m.eM a p));have y:=(h.ui p).gr (g,i) j (0,0);have dN:=aa (fun W (w:J b W)=>P2 ((h.af w).m.eM a p).jM.q g i 0 0 j y.1 y.2);have aC:=aa h;clear h y;go_enter func24,ntmps24;go_wp2_with fail
 refine bR.o.mono ?_;rintro c l ⟨L,dT⟩;have z:=aa (v.o.trans (L.mono v.o.size));clear L;have N:=z.o.size;rcases dT with⟨m,hm,k,rfl⟩|⟨o,P,Q,R,eH,rfl⟩
 ·have cG:=aa k;clear k
  rcases hm with rfl|rfl|rfl
  all_goals go_wp2
  all_goals go_ret2
  all_goals exact(show _/\_ from⟨z.o.alloc N _,.inl ⟨_,cG.o,rfl⟩⟩)
 ·have B:=aa (And.intro P (And.intro Q R));clear eH P Q R
  have C:=aa (z.o.alloc N (.cells #[A g,A i,.string j,A 0,A 0] 97));have S:=aa (bL l (.cells #[A g,A i,.string j,A 0,A 0] 97));go_wp2_with fail
  go_region_held3 (fun W=>W.cell? (V l 0)=some (A g)/\W.cell? (V l 1)=some (A i)/\W.cell? (V l 2)=some (.string j)/\W.cell? (V l 3)=some (A 0)/\W.cell? (V l 4)=some (A 0)) (first |exact ga S.o|exact ga ez.o|exact ga U.o)
   (first
    |(go_at_call 48;refine(fO.o _ C.o.drew).mono ?_;rintro c w2 ⟨rfl,D⟩;have U:=aa (bj S.o (Hq.o (mq D)));have r:=aa (C.o.drew.trans (D.mono C.o.size));clear D)
    |(go_at_call 49;refine(dN.o w2 r.o).mono ?_;rintro c w3 ⟨u,X,rfl,k,t,n,E⟩;obtain⟨kB,kC,rfl,_,_,_⟩:=bp n;have ez:=aa (bj U.o E);have bK:=aa (r.o.trans (E.mono r.o.size));have IL:=aa (And.intro k (And.intro t n));clear n E k t))
  all_goals(
   go_wp2;go_ret2
   obtain⟨k,t,n⟩:=IL.o;refine(show _/\_ from⟨bK.o,.inr ⟨o,.slice kB X.length kC,X,B.o.1,B.o.2.1,B.o.2.2,rfl,k,t,?_⟩⟩);rw[aoU]at n;exact gC n r.o.size)
end
end Go.Proofs.YtnkpogjiiohapaaGreatDoor
