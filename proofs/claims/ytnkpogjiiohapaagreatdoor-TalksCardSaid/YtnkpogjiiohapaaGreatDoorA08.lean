/- Our own text. -/
import Derived.Deep.DeepCutAuto
import Derived.Test.YtnkpogjiiohapaaGreatDoorA07
import Derived.Test.YtnkpogjiiohapaaGreatDoorA06
set_option linter.unusedSimpArgs false
set_option linter.unusedVariables false
set_option maxRecDepth 1000000
set_option maxHeartbeats 1000000
namespace Go.Proofs.YtnkpogjiiohapaaGreatDoor
section
open Go.RowKit Tryz
variable {a d m z:Nat}{b q C:World}{e i j y:Value}{f:Nat->Nat->Value}{h w:Nat->Value}{k:List bu}{l u:Nat->List bw}{n v:Nat->Nat->Nat}{r:List bw}{s:TypeId}{B:bw}{D:Array Value}{E:List (PId×dS)}{F:List (PId×eI)}{I:Nat×Nat}
structure uI (w w':World) (r N:Nat) (aN aG aQ:Value) (aV:Nat->Value) (cops:Nat->List bw) (cp:Nat->Nat->Value) (has:Nat->Nat->Nat) (c:Nat) (o:bw) (v':Value):Prop where
 new:iT w (aV c) v'
 room:e2 w' r N aN aG aQ (upd aV c v') (upd cops c (cops c++[o])) cp (fun d i=>if d=c/\i=c then has c c+1 else has d i)
 apart:Apart N (upd aV c v') cp
 os:w'.os=w.os
 tape:w'.tape=w.tape
 output:w'.output=w.output
 size:w.heap.size<=w'.heap.size
 other:∀k,k<w.heap.size->some k≠aN.ownBlock->some k≠(cp c 0).ownBlock->some k≠(aV c).ownBlock->w'.heap[k]?=w.heap[k]?
structure lz (w:World) (r N:Nat) (aN aG aQ:Value) (aV:Nat->Value) (cops:Nat->List bw) (cp:Nat->Nat->Value) (has:Nat->Nat->Nat) (c:Nat) (S:List bu):Prop extends Shown w r N aN aG aQ aV cops cp has c S where
 apart:Apart N aV cp
 all:has c c=(cops c).length
 cnt:∀o∈iV cops (has c) N,o.p.id.1<=1000000
theorem lz.jY(c:lz b a d e i j h l f n m k)(g:J b q):lz q a d e i j h l f n m k:=
 {c.toShown.af g with apart:=c.apart,all:=c.all,cnt:=c.cnt}
theorem uI.after(g:J b q)(c:uI q C a d e i j h l f n m B y):uI b C a d e i j h l f n m B y:=
 ⟨c.new.imp id fun p k o=>aoS g.size (p k o),c.room,c.apart,c.os.trans g.os,c.tape.trans g.tape,c.output.trans g.output,aoS g.size c.size,
  fun k o r s t=>by rw[c.other k (aoV o g.size) r s t,g.block k o]⟩
theorem adF(c:lz b m d e i j h l f n a k)(F:(l a).length<60)(D E kind q r s t u v g w x:Int)(y:Bool)(z:ByteArray)(p:Value)(B:List PId)(I:er b p B):
  O 145 #[Z m,A a,.agg #[A D,A E,A kind,.bool y,A q,A r,.string z,A s,A t,A u,A v,A g,A w,A x,p]] b fun o L=>
   o=.returned (.agg #[A (nj (iV l (n a) d)+1),A a])/\∃C,uI b L m d e i j h l f n a ⟨⟨(nj (iV l (n a) d)+1,a),kind,y,(q,r),z,(s,t),(u,v),g,(w,x),B⟩,p⟩ C:=
 (adA c.room c.apart a c.hc F c.all c.cnt D E kind q r s t u v g w x y z p B I).mono fun _ _ ⟨M,C,N,P,Q,R,S,U,W,X⟩=>⟨M,C,N,P,Q,R,S,U,W,X⟩
theorem adG{cops:Nat->List bw}{has F:Nat->Nat}{N:Nat}(d:a<N)(f:has a=(cops a).length)(g:F a=has a+1)(hF:∀i,i≠a->F i=has i)(o:bw):
  (iV (upd cops a (cops a++[o])) F N).Perm (iV cops has N++[o]):=by
 have h:∀k,k<=N->(iV (upd cops a (cops a++[o])) F k).Perm (iV cops has k++if a<k then[o] else[]):=by
  intro k
  induction k with
  |zero=>intro _;simp[iV]
  |succ k ih=>
   intro j;rw[Kd,Kd];have b:=ih (by omega);by_cases e:k=a
   ·subst e
    rw[if_neg (by omega),apu]at b;rw[if_pos (by omega),bN,g,f];rw[apc (by simp),apc (aoP _),apf];exact b.append_right _
   ·rw[ck _ _ e,hF k e]
    by_cases c:a<k
    ·rw[if_pos c]at b
     rw[if_pos (by omega)];refine(b.append_right _).trans ?_;rw[apf,apf];exact arv _ aq6
    ·rw[if_neg c,apu]at b
     rw[if_neg (by omega),apu];exact b.append_right _
 have :=h N (aoP _);rwa [if_pos d]at this
theorem adH(l:List bw):∀o∈l,o.p.id.1<=nj l:=by
 have b:∀(l:List bw) (m:Int),m<=l.foldl (fun m o=>if m<o.p.id.1 then o.p.id.1 else m) m/\∀o∈l,o.p.id.1<=l.foldl (fun m o=>if m<o.p.id.1 then o.p.id.1 else m) m:=by
  intro l
  induction l with
  |nil=>intro m;simp
  |cons x l ih=>
   intro m;have h:=ih (if m<x.p.id.1 then x.p.id.1 else m);rw[aqr];refine⟨aqh ?_ h.1,fun o a=> ?_⟩
   ·split <;>omega
   ·rcases ao3.1 a with rfl|a
    ·refine aqh ?_ h.1
     split <;>omega
    ·exact h.2 o a
 exact(b l 0).2
theorem uI.next{w' N cops has o}(g:lz b m N e i j h cops f has d k)(s:uI b w' m N e i j h cops f has d o y)(t:o.p.id=(nj (iV cops (has d) N)+1,(d:Int)))(E:nj (iV cops (has d) N)<1000000):
  lz w' m N e i j (upd h d y) (upd cops d (cops d++[o])) f (fun l c=>if l=d/\c=d then has d d+1 else has l c) d (k++[o.p]):=by
 have u:=adG (cops:=cops) (has:=has d) (F:=fun c=>if d=d/\c=d then has d d+1 else has d c) (N:=N) g.hc g.all (by simp) (fun c w=>by simp[w]) o;have z:∀x∈iV (upd cops d (cops d++[o])) (fun c=>if d=d/\c=d then has d d+1 else has d c) N,x∈iV cops (has d) N\/x=o:=fun x q=>by
  have :=u.mem_iff.1 q;rcases aoZ.1 this with r|r
  ·exact .inl r
  ·exact .inr (by simpa using r)
 have B:∀p∈k,p.id.1<=nj (iV cops (has d) N):=fun p C=>by
  obtain⟨x,q,rfl⟩:=aoX.1 (g.perm.mem_iff.1 C);exact adH _ x q
 refine{room:=s.room,hc:=g.hc,perm:= ?_,sort:= ?_,apart:=s.apart,all:= ?_,cnt:= ?_}
 ·refine(g.perm.append_right [o.p]).trans ?_
  rw[show(iV cops (has d) N).map bw.p++[o.p]=(iV cops (has d) N++[o]).map bw.p by simp];exact(u.map _).symm
 ·unfold xl
  rw[ap9];refine⟨g.sort,by simp,fun a D n v=> ?_⟩;simp at v;subst v;have :=B a D;rw[t];simp[rz];omega
 ·simp[bN,g.all]
 ·intro x q
  rcases z x q with r|rfl
  ·exact g.cnt x r
  ·rw[t];show nj (iV cops (has d) N)+1<=1000000;omega
def bZ (S:List bu):Int:=S.foldl (fun m p=>if m<p.id.1 then p.id.1 else m) 0
theorem adI(l:List bw):nj l=bZ (l.map bw.p):=by
 unfold nj bZ;rw[List.foldl_map]
theorem GU(S:List bu):0<=bZ S/\(∀p∈S,p.id.1<=bZ S)/\(bZ S=0\/∃p∈S,p.id.1=bZ S):=by
 have d:∀(S:List bu) (m:Int),m<=S.foldl (fun m p=>if m<p.id.1 then p.id.1 else m) m/\(∀p∈S,p.id.1<=S.foldl (fun m p=>if m<p.id.1 then p.id.1 else m) m)/\
   (S.foldl (fun m p=>if m<p.id.1 then p.id.1 else m) m=m\/∃p∈S,p.id.1=S.foldl (fun m p=>if m<p.id.1 then p.id.1 else m) m):=by
  intro S
  induction S with
  |nil=>intro m;simp
  |cons x S ih=>
   intro m;obtain⟨c,e,a⟩:=ih (if m<x.id.1 then x.id.1 else m);rw[aqr];refine⟨aqh ?_ c,fun p b=> ?_,?_⟩
   ·split <;>omega
   ·rcases ao3.1 b with rfl|b
    ·refine aqh ?_ c
     split <;>omega
    ·exact e p b
   ·rcases a with a|⟨p,b,a⟩
    ·rw[a]
     split
     ·exact .inr ⟨x,ao6,rfl⟩
     ·exact .inl rfl
    ·exact .inr ⟨p,apa _ b,a⟩
 exact d S 0
theorem adJ{a:List bu}(h:k.Perm a):bZ k=bZ a:=by
 obtain⟨g,e,b⟩:=GU k;obtain⟨i,f,c⟩:=GU a;refine Int.le_antisymm ?_ ?_
 ·rcases b with b|⟨p,d,b⟩
  ·omega
  ·rw[<-b];exact f p (h.mem_iff.1 d)
 ·rcases c with c|⟨p,d,c⟩
  ·omega
  ·rw[<-c];exact e p (h.mem_iff.2 d)
theorem GV(S:List bu)(o:bu)(h:o.id.1=bZ S+1):bZ (S++[o])=bZ S+1:=by
 show(S++[o]).foldl (fun m p=>if m<p.id.1 then p.id.1 else m) 0=bZ S+1;rw[apX];show(if bZ S<o.id.1 then o.id.1 else bZ S)=bZ S+1;rw[h,if_pos (by omega)]
theorem Shown.top(c:Shown b m a e i j h l f n d k):nj (iV l (n d) a)=bZ k:=by
 rw[adI];exact(adJ c.perm).symm
theorem uI.typed(c:lz b m z e i j h l f n a k)(t:uI b q m z e i j h l f n a B y)(p:b.heap[d]?=some (.cells D s I))(u:s≠255)(v:s≠3)(w:s≠233):q.heap[d]?=b.heap[d]?:=by
 refine t.other d (ao1.1 p).1 ?_ ?_ ?_
 ·intro g;obtain⟨r,o⟩:=bt c.room.hq g.symm;exact u (bz p o)
 ·intro g;obtain⟨r,o⟩:=bt (c.room.hH a c.hc) g.symm;exact v (bz p o)
 ·intro g;obtain⟨r,o⟩:=bt (c.room.dZ a c.hc).1 g.symm;exact w (bz p o)
theorem uI.row{w w'}(b:lz w a d e i j h l f n m k)(q:uI w w' a d e i j h l f n m B y){base:Nat}{size:Nat}{v:Value}{c:List Value}(o:w.ownsRow base s size v z c)(r:s≠255)(t:s≠3)(u:s≠233):w'.ownsRow base s size v z c:=by
 refine⟨o.1,?_⟩;rcases o.2 with x|⟨g,C,D,rfl,E,p,rest⟩
 ·exact .inl x
 ·exact .inr ⟨g,C,D,rfl,E,by rw[q.typed b p r t u];exact p,rest⟩
structure gx (w w':World) (r N:Nat) (aN aG aQ:Value) (aV:Nat->Value) (cops:Nat->List bw) (cp:Nat->Nat->Value) (has:Nat->Nat->Nat) (c:Nat) (S:List bu) (l:List bw) (dU:Nat->Value) (dV:Nat->List bw) (has':Nat->Nat->Nat):Prop where
 wr:lz w' r N aN aG aQ dU dV cp has' c (S++l.map bw.p)
 ops:dV=upd cops c (cops c++l)
 ad:has'=fun d i=>if d=c/\i=c then has c c+l.length else has d i
 aB:∀i,i≠c->dU i=aV i
 new:iT w (aV c) (dU c)
 AA:∀o∈l,∀k,o.dq.ownBlock=some k->w.heap.size<=k
 os:w'.os=w.os
 tape:w'.tape=w.tape
 output:w'.output=w.output
 size:w.heap.size<=w'.heap.size
 other:∀k,k<w.heap.size->some k≠aN.ownBlock->some k≠(cp c 0).ownBlock->some k≠(aV c).ownBlock->w'.heap[k]?=w.heap[k]?
theorem gx.adK(g:lz b d m e i j h l f n a k)(s:uI b C d m e i j h l f n a B y)(w:B.p.id=(bZ k+1,(a:Int)))(x:bZ k<1000000)(t:J q b)(z:∀c,B.dq.ownBlock=some c->q.heap.size<=c):
  gx q C d m e i j h l f n a k [B] (upd h a y) (upd l a (l a++[B])) (fun r o=>if r=a/\o=a then n a a+1 else n r o):=
 {wr:=uI.next g s (by rw[g.toShown.top];exact w) (by rw[g.toShown.top];exact x)
  ops:=rfl
  ad:=rfl
  aB:=fun o D=>ck _ _ D
  new:=by rw[bN];exact s.new.imp id fun E c u=>aoS t.size (E c u)
  AA:=fun M v c u=>by simp at v;subst v;exact z c u
  os:=s.os.trans t.os,tape:=s.tape.trans t.tape,output:=s.output.trans t.output,size:=aoS t.size s.size
  other:=fun c u F I L=>by rw[s.other c (aoV u t.size) F I L,t.block c u]}
theorem gx.trans{w s w' r N l m n t u v x y z cp has B has' c S q C}(a:gx w s r N l m n t x cp has c S q u y B)(b:gx s w' r N l m n u y cp B c (S++q.map bw.p) C v z has'):
  gx w w' r N l m n t x cp has c S (q++C) v z has':=by
 refine{wr:=by rw[ao8,<-apf];exact b.wr,ops:= ?_,ad:= ?_,aB:=fun i D=>(b.aB i D).trans (a.aB i D),new:= ?_,AA:= ?_,os:=b.os.trans a.os,tape:=b.tape.trans a.tape,output:=b.output.trans a.output,size:=aoS a.size b.size,other:= ?_}
 ·rw[b.ops,a.ops]
  funext i;by_cases e:i=c
  ·subst e;simp[upd]
  ·simp[upd,e]
 ·rw[b.ad,a.ad]
  funext d i;by_cases e:d=c/\i=c
  ·simp only[e,and_self,if_true,aoW];omega
  ·simp only[e,if_false]
 ·rcases b.new with h|h
  ·rcases a.new with g|g
   ·exact .inl (h.trans g)
   ·exact .inr fun k f=>g k (by rw[<-h];exact f)
  ·exact .inr fun k f=>aoS a.size (h k f)
 ·intro o j k f
  rcases aoZ.1 j with j|j
  ·exact a.AA o j k f
  ·exact aoS a.size (b.AA o j k f)
 ·intro k f E F I
  rw[b.other k (aoV f a.size) E F ?_,a.other k f E F I];rcases a.new with g|g
  ·rw[g];exact I
  ·intro e;have :=g k e.symm;omega
theorem gx.after(p:J b q)(c:gx q C a d e i j h l f n m k r w u v):gx b C a d e i j h l f n m k r w u v:=
 {c with new:=c.new.imp id fun t g s=>aoS p.size (t g s),AA:=fun o x g s=>aoS p.size (c.AA o x g s),os:=c.os.trans p.os,tape:=c.tape.trans p.tape,output:=c.output.trans p.output,size:=aoS p.size c.size,other:=fun g s y z B=>by rw[c.other g (aoV s p.size) y z B,p.block g s]}
theorem gx.before{c}(g:gx b q a d e i j h l f n c k r w u v)(o:J q C):gx b C a d e i j h l f n c k r w u v:=
 {g with wr:=g.wr.jY o,os:=o.os.trans g.os,tape:=o.tape.trans g.tape,output:=o.output.trans g.output,size:=aoS g.size o.size,other:=fun m p s t x=>by rw[o.block m (aoV p g.size),g.other m p s t x]}
theorem gx.typed(g:lz b m z e i j h l f n a k)(c:gx b q m z e i j h l f n a k r w u v)(o:b.heap[d]?=some (.cells D s I))(y:s≠255)(B:s≠3)(C:s≠233):q.heap[d]?=some (.cells D s I):=by
 rw[<-o];refine c.other d (ao1.1 o).1 ?_ ?_ ?_
 ·intro p;obtain⟨x,t⟩:=bt g.room.hq p.symm;exact y (bz o t)
 ·intro p;obtain⟨x,t⟩:=bt (g.room.hH a g.hc) p.symm;exact B (bz o t)
 ·intro p;obtain⟨x,t⟩:=bt (g.room.dZ a g.hc).1 p.symm;exact C (bz o t)
theorem gx.row{w w' p q}(t:lz w a d e i j h l f n m k)(b:gx w w' a d e i j h l f n m k r p u q){base:Nat}{size:Nat}{v:Value}{c:List Value}(o:w.ownsRow base s size v z c)(x:s≠255)(y:s≠3)(B:s≠233):w'.ownsRow base s size v z c:=by
 refine⟨o.1,?_⟩;rcases o.2 with C|⟨g,D,E,rfl,F,I,rest⟩
 ·exact .inl C
 ·exact .inr ⟨g,D,E,rfl,F,b.typed t I x y B,rest⟩
theorem gx.len{w' r c g}(d:gx b w' r a e i j h l f n c k g w u v):(u c).length=(l c).length+g.length:=by
 rw[d.ops,bN,aoW]
theorem bh{w:World}{g:Nat}{a b:Value}{t:TypeId}(h:w.heap[g]?=some (.cells #[a,b] t I)):w.cell? (H g)=some a/\w.cell? (K g 1)=some b:=by
 simp[World.cell?,h]
theorem cS{w:World}{g:Nat}(h:w.heap[g]?=some (.cells D s (0,0)))(j:Nat):w.frozen? (K g j)=false:=by
 simp[World.frozen?,h]
theorem aM{w:World}{g:Nat}{o:Obj}(h:w.heap[g]?=some o):g<w.heap.size:=(ao1.1 h).1
theorem mi{o o':Obj}(h:b.heap[a]?=some o):(b.alloc o').heap[a]?=some o:=by
 show(b.heap.push o')[a]?=some o;rw[<-h,Array.getElem?_push,if_neg (Nat.ne_of_lt (aM h))]
theorem bL(w:World)(o:Obj):(w.alloc o).heap[w.heap.size]?=some o:=by
 show(w.heap.push o)[w.heap.size]?=some o;rw[Array.getElem?_push,if_pos rfl]
theorem bj{w w':World}{g:Nat}{o:Obj}(h:w.heap[g]?=some o)(a:J w w'):w'.heap[g]?=some o:=by
 rw[a.block g (aM h)];exact h
theorem EO(w:World):er w (.slice none 0 0) []:=ao9 _ _ _ _
theorem e2.cell{w has}(b:e2 w d a e i j h l f has){g:Nat}{cs:Array Value}(t:w.heap[g]?=some (.cells cs 36 (0,0)))(z:∀k,k<a->∀o∈l k,o.dq.ownBlock≠some g)(p:Nat)(u:Value):e2 (w.setCell (K g p) u) d a e i j h l f has:=by
 have q:∀{base:Nat} {m:TypeId} {size:Nat} {v:Value} {n:Nat} {x:List Value},w.ownsRow base m size v n x->m≠36->v.ownBlock≠some g:=by
  intro base m size v n x r B C;obtain⟨E,D⟩:=bt r C;exact B (bz D t)
 refine⟨?_,b.hN,iW b.hq (q b.hq (by decide)) u,fun k s=>⟨iW (b.dZ k s).1 (q (b.dZ k s).1 (by decide)) u,fun o r=>iW ((b.dZ k s).2 o r) (z k s o r) u⟩,iW b.fx (q b.fx (by decide)) u,
  fun c y=>iW (b.hH c y) (q (b.hH c y) (by decide)) u,b.hle,b.hsz⟩
 rw[apj _ _ _ _ (by intro m;subst m;exact absurd (bz b.aI t) (by decide))];exact b.aI
theorem gx.cell{w d r N f m n p s b t q has v c S l}(z:lz w r N f m n p b q has c S)(h:gx w d r N f m n p b q has c S l s t v){g:Nat}{cs:Array Value}(B:d.heap[g]?=some (.cells cs 36 (0,0)))(M:w.heap.size<=g)(C:∀o∈l,o.dq.ownBlock≠some g)(j:Nat)(u:Value):
  gx w (d.setCell (K g j) u) r N f m n p b q has c S l s t v:=by
 refine{h with wr:={h.wr with room:=h.wr.room.cell B ?_ j u},os:= ?_,tape:= ?_,output:= ?_,size:= ?_,other:= ?_}
 ·intro i D o a e
  rw[h.ops]at a;have x:∀o∈b i,o.dq.ownBlock≠some g:=fun o a e=>by
   have :=(aoT ((z.room.dZ i D).2 o a) g e).2;omega
  by_cases y:i=c
  ·subst y
   rw[bN]at a;rcases aoZ.1 a with a|a
   ·exact x o a e
   ·exact C o a e
  ·rw[ck _ _ y]at a
   exact x o a e
 ·simpa[World.setCell]using h.os
 ·simpa[World.setCell]using h.tape
 ·simpa[World.setCell]using h.output
 ·simpa[World.setCell]using h.size
 ·intro k E F I L
  rw[apj _ _ _ _ (show k≠g by omega)];exact h.other k E F I L
theorem gx.res(x:lz b d m e i j h l f n z k)(p:gx b q d m e i j h l f n z k r w u v){s:Value}(t:q.heap[a]?=some (.cells #[s,y] 36 (0,0)))(B:b.heap.size<=a)(C:∀o∈r,o.dq.ownBlock≠some a)(c g:Value):
  gx b ((q.setCell (H a) c).setCell (K a 1) g) d m e i j h l f n z k r w u v:=by
 refine(p.cell x t B C 0 c).cell x (cs:= #[c,y]) ?_ B C 1 g;have D:=aM t;obtain⟨_,E⟩:=ao1.1 t;simp[World.setCell,D,ap2,E]
theorem xw(N:J q b)(c:lz b d m e i j h l f n a k)(P:(l a).length<60){t:Int}(Q:bZ k=t)(R:t<1000000)(F I kind s u v w x y g z B:Int)(C:Bool)(D:ByteArray)(r:Value)(E:List PId)(S:er b r E)(U:∀o,r.ownBlock=some o->q.heap.size<=o):
  O 145 #[Z d,A a,.agg #[A F,A I,A kind,.bool C,A s,A u,.string D,A v,A w,A x,A y,A g,A z,A B,r]] b fun p W=>
   p=.returned (.agg #[A (t+1),A a])/\∃X Y has',gx q W d m e i j h l f n a k [⟨⟨(t+1,a),kind,C,(s,u),D,(v,w),(x,y),g,(z,B),E⟩,r⟩] X Y has':=by
 subst Q;refine(adF c P F I kind s u v w x y g z B C D r E S).mono fun _ _ ⟨L,v',M⟩=> ?_
 rw[c.toShown.top]at L M;exact⟨L,_,_,_,gx.adK c M rfl R N U⟩
def lA (a:List (PId×eI)) (b:List (PId×dS)) (o:PId) (c:ByteArray) (x:PId):Bool:=
 if c=⟨#[]⟩ then(match bq x b with |some e=>decide (e.list=o)|none=>false) else(bq o a).isSome&& !nh o a
theorem GW:(⟨#[]⟩:ByteArray).toList=[]:=by
 unfold ByteArray.toList;unfold ByteArray.toList.loop;simp[ByteArray.size]
theorem GX{key:ByteArray}(h:key≠⟨#[]⟩):key.toList.isEmpty=false:=by
 cases b:key.toList with
 |cons a l=>rfl
 |nil=>
  exfalso;apply h;rw[<-arh,beq_toListBytes,b,GW];rfl
theorem GY(h:cu b d m z F E)(c f i j:Int)(n:ByteArray):
  O 136 #[Z d,.agg #[A c,A f,.string n,A i,A j]] b fun e w'=>e=.returned (.bool (lA F E (c,f) n (i,j)))/\J b w':=by
 have u:=h.a6;have D:=h.lt;have k:=aa ((aoQ b.heap.size b).alloc (aoP _) (.cells #[A c,A f,.string n,A i,A j] 97));by_cases q:n=⟨#[]⟩
 ·subst q
  have g:=k.o.drew;have l:=(k.o.alloc (by simp) (.cells #[A 0,A 0,A 0,A 0,.map none] 176)).drew;have s:=(h.af g).sB i j true;have t:=(h.af l).sB i j true;clear h g l;unfold lA;rw[if_pos rfl];generalize bq (i,j) E=L at *;cases L with
  |none=>
   simp only[aqt,aqY,art,if_true]at s t;go_enter func136,ntmps136;go_wp2;go_region
   all_goals go_wp2
   all_goals go_ret
   all_goals exact⟨rfl,by go_grown⟩
  |some o=>
   obtain⟨⟨q1,w⟩,I,M,N⟩:=o;simp only[apw,apr,aqP,if_true,oI]at s t;have heq:=uv;go_enter func136,ntmps136;go_wp2;go_region
   all_goals go_wp2
   all_goals go_ret
   all_goals exact⟨l9 (by rw[<-Ng (q1,w) (c,f)]),by go_grown⟩
 ·have P:=GX q
  have x:=aa (fun W r=>GO (cu.af h (w':=W) r) c f);have y:=aa (fun W r=>yL (cu.af h (w':=W) r) c f);clear h u;unfold lA;rw[if_neg q];generalize(bq (c,f) F).isSome=B at *;generalize nh (c,f) F=G at *;go_enter func136,ntmps136;go_wp2_with fail
  refine(x.o _ k.o).mono ?_;rintro e Q ⟨rfl,g⟩;have R:=af (a:=(V b 0)) (v:=A c) g (by simp[go_sem]);have S:=af (a:=(V b 1)) (v:=A f) g (by simp[go_sem]);have p:=aa (k.o.trans (g.mono k.o.size));clear g;cases B
  ·go_wp2
   go_ret
   exact⟨rfl,p.o⟩
  ·go_wp2_with fail
   refine(y.o _ p.o).mono ?_;rintro e U ⟨rfl,l⟩;have C:=aa (p.o.trans (l.mono p.o.size));clear l;go_wp2;go_ret
   exact⟨l9 (by cases G<;>rfl),C.o⟩
def eY (b:List (PId×eI)) (d:List (PId×dS)) (o:PId) (a:ByteArray) (x:PId):qL:=
 if lA b d o a x then
  (if a=⟨#[]⟩ then(match bq x d with |some e=>⟨e.v,e.aB⟩|none=>⟨none,[]⟩)
   else(match bq o b with |some f=>(match bq a f.ks with |some c=>c|none=>⟨none,[]⟩)|none=>⟨none,[]⟩))
 else⟨none,[]⟩
theorem fQ {κ ν:Type} [DecidableEq κ] {x:κ} {m:List (κ×ν)} {v:ν} (h:bq x m=some v):(x,v)∈m:=by
 unfold bq at h;cases a:m.find? (fun p=>decide (x=p.1)) with
 |none=>rw[a]at h;cases h
 |some p=>
  rw[a]at h;simp at h;have b:=aqH a;simp at b;have c:=aqi a;rw[<-h,b];exact c
theorem cu.at{w}(h:cu w a d m F E)(o:PId)(key:ByteArray)(x:PId):iN w (eY F E o key x).v (eY F E o key x).aB:=by
 unfold eY;split
 ·split
  ·split
   ·rename_i e b;exact h.aH _ (fQ b)
   ·exact .inl ⟨rfl,rfl⟩
  ·split
   ·split
    ·rename_i _ i f _ c g;exact(h.hk _ (fQ f)).2 _ (fQ g)
    ·exact .inl ⟨rfl,rfl⟩
   ·exact .inl ⟨rfl,rfl⟩
 ·exact .inl ⟨rfl,rfl⟩
theorem Oh {κ:Type} [DecidableEq κ] {d:κ->Value} (a:xb κ s d) {t c:TypeId} (f:prog.underlying t=some (.map s c)) (g:(zeroValue c).run prog b=.ok e b) (x:κ) (ok:Bool):
  (Instr.lookup t (.map none) (d x) ok).run prog b=.ok (if ok then .tuple #[e,.bool false] else e) b:=by
 have h:=a.check true x b;have i:=a.find (fun v:Value=>v) x b [] [] rfl;unfold Instr.lookup;rw[apk,run_underlying f,apq];simp only[apk,apq,apZ];rw[show(#[]:Array MapEntry).isEmpty=true from rfl,h];simp only[apq];rw[i];cases ok<;>simp[kk,g,apk]
theorem Oi(W:World):(zeroValue 159).run prog W=.ok (.map none) W:=by kernel_rfl
theorem rF.look{v e}(h:rF b v e)(d:ByteArray):
  (Instr.lookup 168 (.map v) (.string d) false).run prog b=.ok (.map (match bq d e with |some c=>c.v|none=>none)) b:=by
 rcases h.1 with⟨rfl,rfl⟩|⟨a,g,i,rfl,f⟩
 ·exact Oh Gs underlying168 (Oi b) d false
 ·have :=yy Gs f underlying168 (Oi b) d false
  rw[show(Value.string d)=mE d from rfl,this];cases bq d e<;>rfl
theorem GZ(a b c d:Value)(r:Option Nat)(W:World):(Instr.field 176 (.agg #[a,b,c,d,.map r]) 2).run prog W=.ok (.map r) W:=by kernel_rfl
theorem EP(a c d:Value)(r:Option Nat)(W:World):(Instr.field 170 (.agg #[a,.map r,c,d]) 1).run prog W=.ok (.map r) W:=by kernel_rfl
theorem KF(h:cu b d m z F E)(l n p j:Int)(i:ByteArray):
  O 86 #[Z d,.agg #[A l,A n,.string i,A p,A j]] b fun e Y=>e=.returned (.map (eY F E (l,n) i (p,j)).v)/\J b Y:=by
 have k:=aa ((aoQ b.heap.size b).alloc (aoP _) (.cells #[A l,A n,.string i,A p,A j] 97));have t:=aa (GY (h.af k.o) l n p j i);by_cases y:i=⟨#[]⟩
 ·subst y
  have w:=aa (fun W (r:J b W)=>(h.af r).a6);have P:=aa (fun W (r:J b W)=>(h.af r).sB p j false);clear h;unfold eY;simp only[if_true];generalize lA F E (l,n) ⟨#[]⟩ (p,j)=B at *;generalize bq (p,j) E=L at *;cases B
  ·go_enter func86,ntmps86
   go_wp2_with fail
   refine t.o.mono ?_;rintro e u ⟨rfl,f⟩;have g:=aa (k.o.trans (f.mono k.o.size));clear f;go_wp2;go_ret
   exact⟨rfl,g.o⟩
  ·cases L with
   |none=>
    go_enter func86,ntmps86;go_wp2_with fail
    refine t.o.mono ?_;rintro e u ⟨rfl,f⟩;have C:=af (a:=(V b 2)) (v:=.string ⟨#[]⟩) f (by simp[go_sem]);have mJ:=af (a:=(V b 3)) (v:=A p) f (by simp[go_sem]);have qM:=af (a:=(V b 4)) (v:=A j) f (by simp[go_sem]);have g:=aa (k.o.trans (f.mono k.o.size));clear f;have D:=w.o _ g.o;have s:=P.o _ g.o.drew;simp only[aqt,aqY,apG,if_false]at s;have I:=GZ;have M:=EP;go_wp2;go_region
    go_wp2;go_ret
    exact⟨rfl,g.o.drew⟩
   |some el=>
    obtain⟨q,on,aoh,ovs⟩:=el;go_enter func86,ntmps86;go_wp2_with fail
    refine t.o.mono ?_;rintro e u ⟨rfl,f⟩;have C:=af (a:=(V b 2)) (v:=.string ⟨#[]⟩) f (by simp[go_sem]);have mJ:=af (a:=(V b 3)) (v:=A p) f (by simp[go_sem]);have qM:=af (a:=(V b 4)) (v:=A j) f (by simp[go_sem]);have g:=aa (k.o.trans (f.mono k.o.size));clear f;have D:=w.o _ g.o;have s:=P.o _ g.o.drew;simp only[apw,apr,apG,if_false,oI]at s;have I:=GZ;have M:=EP;go_wp2;go_region
    go_wp2;go_ret
    exact⟨rfl,g.o.drew⟩
 ·have hr:=GX y
  have w:=aa (fun W (r:J b W)=>(h.af r).bc);have Q:=aa (fun W (r:J b W)=>(h.af r).vP l n false);unfold eY;simp only[y,if_false];have S:=aa (fun N (b3:bq (l,n) F=some N) W (r:J b W)=>((h.hk _ (fQ b3)).af r).look i);clear h;generalize lA F E (l,n) i (p,j)=B at *;generalize bq (l,n) F=L at *;cases B
  ·go_enter func86,ntmps86
   go_wp2_with fail
   refine t.o.mono ?_;rintro e u ⟨rfl,f⟩;have g:=aa (k.o.trans (f.mono k.o.size));clear f;go_wp2;go_ret
   exact⟨rfl,g.o⟩
  ·cases L with
   |none=>
    have KH:=aa (fun W=>Oh Gs underlying168 (Oi W) i false);go_enter func86,ntmps86;go_wp2_with fail
    refine t.o.mono ?_;rintro e u ⟨rfl,f⟩;have eO:=af (a:=(V b 0)) (v:=A l) f (by simp[go_sem]);have fL:=af (a:=(V b 1)) (v:=A n) f (by simp[go_sem]);have C:=af (a:=(V b 2)) (v:=.string i) f (by simp[go_sem]);have g:=aa (k.o.trans (f.mono k.o.size));clear f;have D:=w.o _ g.o;have s:=Q.o _ g.o.drew;have U:=KH.o u.drew;simp only[aqt,aqY,apG,if_false,mE]at s U;have I:=GZ;have M:=EP;go_wp2;go_region
    go_wp2;go_ret
    exact⟨rfl,g.o.drew⟩
   |some N=>
    obtain⟨ol,xx,x,ofr⟩:=N;have X:=aa (S.o _ rfl);clear S;simp only at X;have j:(match bq i x with |some c=>c|none=>⟨none,[]⟩:qL).v=(match bq i x with |some c=>c.v|none=>none):=by cases bq i x<;>rfl
    simp only[if_true];rw[j];clear j;generalize(match bq i x with |some c=>c.v|none=>none:Option Nat)=R at *;go_enter func86,ntmps86;go_wp2_with fail
    refine t.o.mono ?_;rintro e u ⟨rfl,f⟩;have eO:=af (a:=(V b 0)) (v:=A l) f (by simp[go_sem]);have fL:=af (a:=(V b 1)) (v:=A n) f (by simp[go_sem]);have C:=af (a:=(V b 2)) (v:=.string i) f (by simp[go_sem]);have g:=aa (k.o.trans (f.mono k.o.size));clear f;have D:=w.o _ g.o;have s:=Q.o _ g.o.drew;have U:=X.o _ g.o.drew;simp only[apw,apr,apG,if_false,pn]at s;have I:=GZ;have M:=EP;go_wp2;go_region
    go_wp2;go_ret
    exact⟨rfl,g.o.drew⟩
end
section
open Go.RowKit Tryz
attribute [local go_sem] Oper.semAt_some
theorem adL(args:Array Value)(w:World):(callFunc 164 args).run prog w=.ok (.enter 164 args) w:=
 enters_of func164 (by kernel_rfl) rfl args w
theorem adM(c:Nat)(v:Option Nat)(a:List (PId×dR))(w:World)(f:w.cell? (H c)=some (.map v))(g:iN w v a)(l:a.length<=10000):
  O 162 #[.func (.func 164) #[] #[Z c]] w fun e h=>∃u b,e=.returned u/\b.Perm (a.map (·.1))/\gu w.heap.size h u b/\J w h:=by
 have m:=aa (callsIn_wide.1 (adj Fence.wide 3 trivial rfl (by omega) 164 #[Z c] trivial adL (fun b=>b.Perm (a.map (·.1))) (fun _=>True) a.length l w (adg Fence.wide 2 trivial rfl (by omega) c v a w f g)));clear f g;go_enter func162,ntmps162;go_wp2_with fail
 refine m.o.mono ?_;rintro e n ⟨u,b,rfl,i,j,k⟩;have d:=aa (And.intro i (And.intro j k));clear i j k;go_wp2;go_ret
 exact⟨u,b,rfl,d.o.1,d.o.2.1,d.o.2.2⟩
end
section
open Go.RowKit Tryz
variable {a j q s u:Nat}{b n r:World}{d e f h:Value}{i:TypeId}{k:Nat×Nat}{l:List Value}
theorem adN(n s:Int)(h:n<1\/4<n\/s<1\/50<s)(w:World):
  O 93 #[A n,A s] w fun e a=>e=.returned (.tuple #[.pointer none,A 1])/\a=w:=by
 by_cases b:n<1
 ·clear h
  go_enter func93,ntmps93;go_wp2;go_ret2
  exact⟨rfl,rfl⟩
 ·by_cases c:4<n
  ·clear h
   go_enter func93,ntmps93;go_wp2;go_ret2
   exact⟨rfl,rfl⟩
  ·by_cases d:s<1
   ·clear h
    go_enter func93,ntmps93;go_wp2;go_ret2
    exact⟨rfl,rfl⟩
   ·have f:50<s:=by omega
    clear h;go_enter func93,ntmps93;go_wp2;go_ret2
    exact⟨rfl,rfl⟩
def pw (N:Nat):Array Value:=madeCells (A 0).cells (N*1)
theorem Oj(N:Nat)(f:N<=4)(W:World):(Instr.makeSlice 24 (.int .i64 (N:Int)) (.int .i64 (N:Int))).run prog W=.ok (.slice (some ⟨W.heap.size,0,none⟩) N N) (W.alloc (.cells (pw N) 3)):=by
 obtain⟨i,a,b,c,d⟩:=info_parts (P:=prog) (e:=3) (z:=.int .i64 0) (size:=1) (bytes:=8) (by kernel_rfl);have :=run_make (P:=prog) W 24 3 i (.int .i64 0) underlying24 a b .i64 .i64 N N (by omega) (apY _) (by rw[d];omega) (by omega);rw[c]at this;simpa[pw]using this
def yQ (N:Nat):Array Value:=madeCells (Value.agg #[.bool false,.slice none 0 0]).cells (N*2)
theorem adO(N:Nat)(f:N<=4)(W:World):(Instr.makeSlice 226 (.int .i64 (N:Int)) (.int .i64 (N:Int))).run prog W=.ok (.slice (some ⟨W.heap.size,0,none⟩) N N) (W.alloc (.cells (yQ N) 249)):=by
 obtain⟨i,a,b,c,d⟩:=info_parts (P:=prog) (e:=249) (z:=.agg #[.bool false,.slice none 0 0]) (size:=2) (bytes:=32) (by kernel_rfl);have :=run_make (P:=prog) W 226 249 i (.agg #[.bool false,.slice none 0 0]) underlying226 a b .i64 .i64 N N (by omega) (apY _) (by rw[d];omega) (by omega);rw[c]at this;simpa[yQ]using this
def one (v:Value):List Value:=[v]
theorem one_cell(h:b.cell? (H a)=some d):∀j u,(one d)[j]?=some u->b.cell? (K a j)=some u:=by
 intro j u c
 match j with
 |0=>simp[one]at c;rw[<-c];exact h
 |j+1=>simp[one]at c
theorem UQ{b:Option Addr}:∀u∈one (.slice b a j),u.oneCell'=true:=by
 intro u c;simp[one]at c;subst c;rfl
def xy (B:Nat) (w:World) (e:TypeId) (v:Value) (l:List Value):Prop:=w.ownsRow B e 1 v l.length (l.flatMap one)
def zeros (B:Nat) (w:World) (v:Value) (N:Nat):Prop:=w.ownsRow B 3 1 v N ((List.range N).map fun _=>A 0)
theorem adP(h:b.ownsRow j 255 1 d a (madeCells (Value.slice none 0 0).cells (a*1)).toList):b.ownsRow j 255 1 d a ((List.range a).map fun _=>Value.slice none 0 0):=by
 have e:(madeCells (Value.slice none 0 0).cells (a*1)).toList=(List.range a).map fun _=>Value.slice none 0 0:=by
  show(madeCells #[Value.slice none 0 0] (a*1)).toList=_;rw[toList_madeCells_one,aqf];apply ap6;intro c;by_cases f:c<a<;>simp[f]
 rw[<-e];exact h
theorem Ol(w:World)(a b c:Obj):(((w.alloc a).alloc b).alloc c).drew.heap[w.heap.size]?=some a:=mi (mi (bL w a))
theorem Om(w:World)(a b c:Obj):(((w.alloc a).alloc b).alloc c).drew.heap[w.heap.size+1]?=some b:=by
 have h:=mi (o':=c) (bL (w.alloc a) b);have e:(w.alloc a).heap.size=w.heap.size+1:=by simp
 rw[e]at h;exact h
theorem On(w:World)(a b c:Obj):(((w.alloc a).alloc b).alloc c).drew.heap[w.heap.size+1+1]?=some c:=by
 have h:=bL ((w.alloc a).alloc b) c;have e:((w.alloc a).alloc b).heap.size=w.heap.size+1+1:=by simp
 rw[e]at h;exact h
theorem adQ(w:World)(a b c:Obj):J w (((w.alloc a).alloc b).alloc c).drew:=((((aoQ _ w).alloc (aoP _) _).alloc (by simp) _).alloc (by simp;omega) _).drew
theorem Oo(h:b.heap[j]?=some (.cells (pw a) 3 (0,0)))(d:q<=j)(g:a<=4):zeros q b (.slice (some (H j)) a a) a:=by
 have e:(pw a).toList=(List.range a).map fun _=>A 0:=by
  unfold pw;show(madeCells #[A 0] (a*1)).toList=_;rw[toList_madeCells_one,aqf];apply ap6;intro c;by_cases f:c<a<;>simp[f]
 have i:(pw a).size=a:=by rw[<-arq,e];simp
 refine⟨by simp,.inr ⟨j,a,pw a,rfl,d,h,aoP _,by unfold maxLen;omega,by omega,?_⟩⟩;rw[e,apc (by simp)]
theorem sG(c:b.heap[a]?=some (.cells #[e,f,h,d] i k)):b.cell? (K a 3)=some d:=by
 simp[World.cell?,c]
theorem UR(c:b.heap[a]?=some (.cells #[e,f,d,h] i k)):b.cell? (K a 2)=some d:=by
 simp[World.cell?,c]
theorem uJ(c:b.heap[a]?=some (.cells #[d,e,f,h] i k)):b.cell? (H a)=some d:=by
 simp[World.cell?,c]
theorem uK(c:b.heap[a]?=some (.cells #[e,d,f,h] i k)):b.cell? (K a 1)=some d:=by
 simp[World.cell?,c]
theorem xA(c:b.heap[a]?=some (.cells #[e,f,d,h] i k)):b.cell? (K a 2)=some d:=by
 simp[World.cell?,c]
theorem adR{f g h:Option Addr}{i:Nat}(k:d=.slice f a s)(l:e.oneCell'=true):∀b∈[d,.slice g j u,e,.slice h q i],b.oneCell'=true:=by
 intro b c;simp at c;rcases c with rfl|rfl|rfl|rfl
 ·rw[k];rfl
 ·rfl
 ·exact l
 ·rfl
theorem KI{g:Value}(c:b.heap[a]?=some (.cells #[d,e,f,g] i (0,0))):(b.setCell (K a 3) h).heap[a]?=some (.cells #[d,e,f,h] i (0,0)):=by
 have j:=aM c;obtain⟨_,k⟩:=ao1.1 c;simp[World.setCell,j,ap2,k]
theorem Oq{u:Value}(c:b.heap[a]?=some (.cells #[d,e,h,f] i (0,0))):(b.setCell (K a 2) u).heap[a]?=some (.cells #[d,e,u,f] i (0,0)):=by
 have g:=aM c;obtain⟨_,j⟩:=ao1.1 c;simp[World.setCell,g,ap2,j]
structure xB where
 a:Value
 b:Value
 c:Value
 d:Value
variable {m:List xB}
def dC (x:xB):List Value:=[x.a,x.b,x.c,x.d]
theorem adS{x:xB}(h:n.heap[j]?=some (.cells #[x.a,x.b,x.c,x.d] i k)):∀e u,(dC x)[e]?=some u->n.cell? (K j e)=some u:=by
 intro e u f;simp only[World.cell?,h];rw[<-f];simp[dC]
theorem b4{w':World}{base:Nat}{size:Nat}{v:Value}(h:b.ownsRow base i size v a l)(c:∀g,v.ownBlock=some g->w'.heap[g]?=b.heap[g]?):w'.ownsRow base i size v a l:=by
 refine⟨h.1,?_⟩;rcases h.2 with d|⟨g,e,f,rfl,j,k,rest⟩
 ·exact .inl d
 ·exact .inr ⟨g,e,f,rfl,j,by rw[c g rfl];exact k,rest⟩
structure sH (w wr:World) (N r:Nat) (aN aG aQ:Value) (cs:List xB) (hh:List Value):Prop where
 aI:wr.heap[r]?=some (.cells #[A N,aN,aG,aQ] 222 (0,0))
 hw:w.heap.size<=r
 hq:wr.ownsRow w.heap.size 255 1 aN N ((List.range N).map fun _=>Value.slice none 0 0)
 fx:wr.ownsRow w.heap.size 225 4 aG cs.length (cs.flatMap dC)
 hH:∀x∈cs,zeros w.heap.size wr x.a N
 Ot:cs.Pairwise fun x y=>x.a.ownBlock≠y.a.ownBlock
 cl:xy w.heap.size wr 226 aQ hh
 below:J w wr
theorem sH.af{w wr r}{W:World}(h:sH w wr a r d e f m l)(b:J wr W):sH w W a r d e f m l:=
 ⟨bj h.aI b,h.hw,c5 h.hq b,c5 h.fx b,fun x c=>c5 (h.hH x c) b,h.Ot,c5 h.cl b,h.below.trans (b.mono h.below.size)⟩
theorem sH.rest{wr}{W:World}(c:sH b wr q a d e f m l)(v:J wr W){u:Value}{o:Nat}{F n:Nat}{I:List Value}(x:wr.ownsRow s j F h n I)(w:W.grownBy r h.ownBlock)(L:b.heap.size<=s):
  (∀{base i size:Nat} {v':Value} {y:Nat} {z:List Value},wr.ownsRow base i size v' y z->i≠j->i≠222->(r.setCell (K a o) u).ownsRow base i size v' y z)/\
  (j≠222->r.heap[a]?=some (.cells #[A q,d,e,f] 222 (0,0)))/\J b (r.setCell (K a o) u):=by
 have M:=aM c.aI;have S:=v.size;have U:=w.size;refine⟨fun{base i size v' y z} E p B=>b4 E (fun g N=> ?_),fun p=> ?_,?_⟩
 ·obtain⟨X,C⟩:=bt E N
  have P:=aM C;rw[apj _ _ _ _ (show g≠a by intro t;subst t;exact B (bz C c.aI)),w.block g (by omega) (fun t=>by obtain⟨Q,D⟩:=bt x t.symm;exact p (bz C D)),v.block g P]
 ·rw[w.block a (by omega) (fun t=>by obtain⟨Q,D⟩:=bt x t.symm;exact p (bz D c.aI)),v.block a M];exact c.aI
 ·have p:J b W:=c.below.trans (v.mono c.below.size)
  have B:J b r:=p.grown w (by have :=c.below.size;omega) (fun k R=>aoS L (aoT x k R).1);exact B.setCell c.hw _
theorem sH.copy{wr}{W:World}(c:sH n wr a j e f h m l)(p:J wr W){x:xB}(s:r.ownsRow n.heap.size 225 4 d (m.length+1) ((m++[x]).flatMap dC))(t:W.grownBy r f.ownBlock)(v:zeros n.heap.size wr x.a a)(w:∀y∈m,y.a.ownBlock≠x.a.ownBlock):sH n (r.setCell (K j 2) d) a j e d h (m++[x]) l:=by
 obtain⟨rows,q,z⟩:=c.rest (u:=d) (o:=2) p c.fx t (aoP _);have q:=q (by decide);refine⟨Oq q,c.hw,rows c.hq (by decide) (by decide),?_,fun y k=> ?_,?_,rows c.cl (by decide) (by decide),z⟩
 ·rw[aoW]
  exact iW s (fun g=>by obtain⟨D,B⟩:=bt s g;exact absurd (bz B q) (by decide)) _
 ·rcases aoZ.1 k with k|k
  ·exact rows (c.hH y k) (by decide) (by decide)
  ·simp at k;subst k;exact rows v (by decide) (by decide)
 ·rw[ap9]
  refine⟨c.Ot,by simp,fun i C b p=> ?_⟩;simp at p;subst p;exact w i C
theorem sH.link{wr}(c:sH b wr j a e f h m l)(p:J wr r){y:Value}(k:n.ownsRow b.heap.size 226 1 d (l.length+1) ((l++[y]).flatMap one))(q:r.grownBy n h.ownBlock):
  sH b (n.setCell (K a 3) d) j a e f d m (l++[y]):=by
 obtain⟨rows,i,s⟩:=c.rest (u:=d) (o:=3) p c.cl q (aoP _);have i:=i (by decide);refine⟨KI i,c.hw,rows c.hq (by decide) (by decide),rows c.fx (by decide) (by decide),fun y t=>rows (c.hH y t) (by decide) (by decide),c.Ot,?_,s⟩;unfold xy;rw[aoW];exact iW k (fun g=>by obtain⟨w,v⟩:=bt k g;exact absurd (bz v i) (by decide)) _
theorem UT(W:World):(zeroValue 57).run prog W=.ok (.agg #[A 0,A 0,A 0]) W:=by kernel_rfl
theorem iN.look{v e}(h:iN b v e)(c d:Int):(Instr.lookup 159 (.map v) (.agg #[A c,A d]) false).run prog b=.ok (oH ((bq (c,d) e).getD (0,(0,0)))) b:=by
 rcases h with⟨rfl,rfl⟩|⟨a,g,i,rfl,f⟩
 ·exact Oh xd underlying159 (UT b) (c,d) false
 ·have :=yy xd f underlying159 (UT b) (c,d) false
  rw[show(Value.agg #[A c,A d])=cX (c,d) from rfl,this];cases bq (c,d) e<;>rfl
theorem Ov{v c}(h:iN b v c){ty:TypeId}:(Builtin.len_ #[159] ty #[.map v]).run prog b=.ok (A c.length) b:=by
 unfold Builtin.len_;rcases h with⟨rfl,rfl⟩|⟨a,e,f,rfl,d⟩
 ·simp[run_underlying underlying159,goInt,apk]
 ·simp[run_underlying underlying159,goInt,apk,JJ d.blk,d.len]
end
end Go.Proofs.YtnkpogjiiohapaaGreatDoor
