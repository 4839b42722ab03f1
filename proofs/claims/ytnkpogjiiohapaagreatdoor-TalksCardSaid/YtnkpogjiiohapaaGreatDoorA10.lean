/- Our own text. -/
import Derived.Test.YtnkpogjiiohapaaGreatDoorA09
set_option linter.unusedSimpArgs false
set_option linter.unusedVariables false
set_option maxRecDepth 1000000
set_option maxHeartbeats 1600000
namespace Go.Proofs.YtnkpogjiiohapaaGreatDoor
section
open Go.RowKit Tryz
open Go.ChangeMaps (setBlock)
variable {a l:World}{b d e j:Nat}{f k:Array MapEntry}{h:List MapEntry}{i:Nat->Prop}
def uR (s:ByteArray):List Value:=[.string s]
def py (B:Nat) (w:World) (v:Value) (l:List ByteArray):Prop:=w.ownsRow B 9 1 v l.length (l.flatMap uR)
theorem KO{i:Array Oper}{rest:List Oper}{o:Oper}{b:Act}{Q:Exit->Act->World->Prop}(k:o.guard=none)(s x:Operand)(m:o.op=.call {callee:=.builtin .append,args:= #[s,x],argTypes:= #[43,43]})(B:Nat)(v:Value)(l:List ByteArray)(n:b.eval s=v)(p:py B a v l)(g c:Nat)(y:ByteArray)(q:b.eval x=.slice (some (H g)) 1 c)(r:a.cell? (H g)=some (.string y))(C:l.length<1000000000)(t:B<=a.heap.size)(h:∀f e,py B e f (l++[y])->a.grownBy e v.ownBlock->wpList prog i Q rest (b.put o.dst f) e):wpList prog i Q (o::rest) b a:=
 JO uR 1 16 43 9 (.string ⟨#[]⟩) (by kernel_rfl) underlying43 rfl (by omega) (fun _=>rfl) k s x m B v l n p g c y q
  (fun j u d=>by match j with |0=>simp[uR]at d;rw[<-d];exact r|j+1=>simp[uR]at d) (fun u d=>by simp[uR]at d;subst d;rfl) (by omega) (by unfold maxLen;omega) t (fun f e w z=>h f e (by unfold py;simpa using w) z)
theorem U7(a c d:Value)(r:Option Nat)(W:World):(Instr.field 170 (.agg #[a,.map r,c,d]) 1).run prog W=.ok (.map r) W:=EP a c d r W
theorem Walk.grown{seen}{n:Option Nat}(i:Walk f j b d seen h a)(o:a.grownBy l n)(p:∀g,n=some g->∃c t k,a.heap[g]?=some (.cells c t k)):Walk f j b d seen h l:=by
 refine⟨?_,?_,i.seen,i.sub⟩
 ·rw[o.block b (ao1.1 i.map).1 (fun e=>by obtain⟨c,t,k,m⟩:=p b e.symm;rw[i.map]at m;cases m)];exact i.map
 ·rw[o.block d (ao1.1 i.iter).1 (fun e=>by obtain⟨c,t,k,m⟩:=p d e.symm;rw[i.iter]at m;cases m)];exact i.iter
theorem ad5{os a7}(h:cu l b d e os a7)(I L:Int){aW:eI}(b3:bq (I,L) os=some aW)(cl:aW.ks.length<=10000)(KP:List ByteArray->List ByteArray)(U8:∀(W:World) (v:Value) (j:List ByteArray),py l.heap.size W v j->j.length<=10000->O 188 #[v] W fun f cR=>(∃r,f=.returned r)/\py l.heap.size cR v (KP j)/\W.grownBy cR v.ownBlock)(yX:∀j l',j.Perm l'->KP j=KP l'):
  O 169 #[Z b,.agg #[A I,A L]] l fun f w'=>∃u,f=.returned u/\py l.heap.size w' u (KP (oO aW.ks))/\J l w':=by
 have R:=aa ((aoQ l.heap.size l).alloc (aoP _) (.cells #[A I,A L] 36));have vE:=aa (GO (h.af R.o) I L);rw[b3]at vE;have pt:=aa (fun W (S:J l W)=>(h.af S).vP I L false);rw[b3]at pt;have dj:=aa (fun W (S:J l W)=>(h.af S).bc);have gM:=aa (fun W (S:J l W)=>(h.hk _ (fQ b3)).af S);obtain⟨ol,xx,s,⟨f1,f2⟩⟩:=aW;simp only at cl gM;simp only[apw,apr,apG,if_false,pn,aqP]at pt vE;have aC:=aa h;clear h b3;have U9:=aa U8;clear U8;have xm:=EP;rcases(gM.o l (aoQ _ _)).1 with⟨rfl,rfl⟩|⟨i,m,t,rfl,hm⟩
 ·go_enter func169,ntmps169
  go_wp2_with fail
  refine vE.o.mono ?_;rintro f p ⟨rfl,C⟩;have cr:=af (a:=(V l 0)) (v:=A I) C (by simp[go_sem]);have bx:=af (a:=(V l 1)) (v:=A L) C (by simp[go_sem]);have w:=aa (R.o.trans (C.mono R.o.size));clear C;have bc:=dj.o _ w.o;have cy:=pt.o _ w.o.drew;have hz1:=w.o.size;have po:=run_range_nilMap (P:=prog) p.drew 168 9 159 underlying168;have OB:=U7;go_wp2;go_region
  obtain⟨y,D⟩:∃y,y=(p.alloc (.mapIter none 0 #[] 0)).drew:=⟨_,rfl⟩;rw[<-D];have KQ:=aa (show J l y by rw[D];exact(w.o.alloc hz1 _).drew);have pq:(Instr.next (Z p.heap.size) false 0).run prog y=.ok (.tuple #[.bool false]) y:=by rw[D];exact run_next_nilMap (P:=prog) p.drew 0 0 0 #[]
  clear D cr bx bc cy po OB xm;have hT:=aa (U9.o y (.slice none 0 0) [] (ao9 _ _ _ _) (by simp));go_wp2;go_loopw [5] (fun u wr=>u=.slice none 0 0/\wr=y) (fun _ _=>0)
  case atStart=>exact⟨rfl,rfl⟩
  case round=>
   obtain⟨rfl,lB⟩:=hrel;subst lB;go_wp2_with fail
   refine hT.o.mono ?_;rintro f w3 ⟨⟨r,rfl⟩,U,E⟩;have X:=aa (And.intro U E);clear U E;go_wp2;go_ret
   exact⟨_,rfl,X.o.1,KQ.o.grown X.o.2 KQ.o.size (fun k M=>by cases M)⟩
 ·have x:=aa hm;clear hm
  have fN:=x.o.lt;go_enter func169,ntmps169;go_wp2_with fail
  refine vE.o.mono ?_;rintro f p ⟨rfl,C⟩;have cr:=af (a:=(V l 0)) (v:=A I) C (by simp[go_sem]);have bx:=af (a:=(V l 1)) (v:=A L) C (by simp[go_sem]);have w:=aa (R.o.trans (C.mono R.o.size));clear C;have bc:=dj.o _ w.o;have cy:=pt.o _ w.o.drew;have hz1:=w.o.size;have uS:=aa (x.o.af w.o.drew);have po:=run_range_map (P:=prog) p.drew 168 9 159 i m t underlying168 uS.o.blk;have OB:=U7;go_wp2;go_region
  obtain⟨y,D⟩:∃y,y=(p.alloc (.mapIter (some i) t #[] t)).drew:=⟨_,rfl⟩;rw[<-D];have KQ:=aa (show J l y by rw[D];exact(w.o.alloc hz1 _).drew);have G2:=aa (show Walk m t i p.heap.size #[] [] y by
   rw[D];exact⟨(hV p _ (x.o.af w.o).lt).trans (x.o.af w.o).blk,heap_alloc_new p _,rfl,fun f z=>by cases z⟩)
  clear D cr bx bc cy po OB xm uS;go_wp2;go_loopw [5] (fun u wr=>∃seen n,Walk m t i p.heap.size seen n wr/\(n.map (·.born)).Nodup/\n.length+(leftOf m seen).size<=s.length/\py l.heap.size wr u (oO (n.filterMap (jg m.toList s)))/\J l wr) (fun _ wr=>EJ i p.heap.size wr)
  case atStart=>exact⟨#[],[],G2.o,by simp,by rw[<-x.o.len];simp only[apv,apF];exact Array.size_filter_le,ao9 _ _ _ _,KQ.o⟩
  case round=>
   obtain⟨seen,n,vQ,cB,uH,bm,aZ⟩:=hrel;have F:=aa vQ;clear vQ;have e0:=aa cB;clear cB;have cL:=aa bm;clear bm;have gD:=aa aZ;clear aZ;have sj:=gD.o.size;rcases run_next_at (P:=prog) wr 0 p.heap.size i t t seen m t F.o.iter F.o.map x.o.old (aoP _) with⟨uE,fa⟩|⟨f,z,ml,tO,fa⟩
   ·have ag:=F.o.all x.o.nodup e0.o uE
    have ed:=aa (show(oO (n.filterMap (jg m.toList s))).Perm (oO s) by
     have h1:=ag.filterMap (jg m.toList s);rw[Oz x.o.nodup (by have :=x.o.len;simpa using this)]at h1;unfold oO;exact(h1.filter _).map _)
    have qQ:=aa (show(oO (n.filterMap (jg m.toList s))).length<=10000 by
     rw[ed.o.length_eq];unfold oO;rw[aoU];exact aoS (apK _ _) cl)
    have hT:=aa (U9.o wr u5 _ cL.o qQ.o);go_wp2_with fail
    refine hT.o.mono ?_;rintro f w3 ⟨⟨r,rfl⟩,U,E⟩;have X:=aa (And.intro U E);clear U E;go_wp2;go_ret
    refine⟨_,rfl,?_,gD.o.grown X.o.2 sj (fun k M=>(aoT cL.o k M).1)⟩;rw[<-yX _ _ ed.o];exact X.o.1
   ·have gS:f∈m.toList:=by unfold leftOf at z;simp at z;simpa using z.1
    obtain⟨⟨N,hW⟩,pz,CK,AG,AE⟩:=OA x.o.nodup x.o.mD gS;have q:=aa (F.o.next (by have :=(x.o.af w.o).lt;omega) z tO);obtain⟨B,eD⟩:∃B,B=setBlock ml p.heap.size (.mapIter (some i) t (seen.push f.born) t):=⟨_,rfl⟩;rw[<-eD]at fa q;have nM:=run_entry_at (P:=prog) B p.heap.size i t seen m t f q.o.iter q.o.map gS x.o.nodup;rw[AG,AE]at fa nM;simp only[mE,sA]at fa nM;have e1:wr.grownBy B (some p.heap.size):=by rw[eD];exact Kr tO _ _
    clear eD tO;have bf:=aa (gD.o.grown e1 sj (fun k M=>by cases M;exact hz1));have Y:=aa (show py l.heap.size B u5 (oO (n.filterMap (jg m.toList s))) from b4 cL.o (fun g ah=>by
     obtain⟨b2,Q⟩:=bt cL.o ah;exact e1.block g (ao1.1 Q).1 (fun f=>by injection f with f;subst f;rw[F.o.iter]at Q;cases Q)))
    have dD:=aa e1;clear e1;have AH:=aa (show((n++[f]).map (·.born)).Nodup by
     rw[ao8,aps];refine⟨e0.o,by simp,fun a au c hc xr=> ?_⟩;simp at hc;subst hc;unfold leftOf at z;simp at z;rw[<-F.o.seen]at au;rw[xr]at au;exact z.2 (by simpa using au))
    have HKV:=aa ((gM.o _ bf.o).2 _ pz);have sJ:=Ov HKV.o (ty:=3);have ly:=aa (GP z);have sr:=aa (show(n++[f]).filterMap (jg m.toList s)=n.filterMap (jg m.toList s)++[(N,hW)] by rw[List.filterMap_append];simp[CK]);have sC:=ly.o;have ad6:=bf.o.size;simp only at sJ;by_cases ad:0<hW.aB.length
    ·have jk:(oO (n.filterMap (jg m.toList s))).length<=10000:=by
      unfold oO;rw[aoU];refine aoS (apK _ _) (aoS (List.length_filterMap_le _ _) (by omega))
     go_wp2_with (at_builtin;go_must (refine KO rfl (.tmp 28) (.tmp 30) rfl l.heap.size _ (oO (n.filterMap (jg m.toList s))) rfl ?h1 B.heap.size 1 N rfl ?h2 ?aL ?bW ?_;(case h1=>exact aqd Y.o _);(case h2=>simp[go_sem]);(case aL=>omega);(case bW=>simp;omega);intro v' w3 fW E;have mm:=aa E;clear E;have qb:=aa fW;clear fW))
     go_roundw
     case rel=>
      have fM:Walk m t i p.heap.size (seen.push f.born) (n++[f]) w3:=by
       refine Walk.grown ?_ mm.o (fun g ah=> ?_)
       ·exact⟨(hV B _ (ao1.1 q.o.map).1).trans q.o.map,(hV B _ (ao1.1 q.o.iter).1).trans q.o.iter,q.o.seen,q.o.sub⟩
       ·obtain⟨b2,Q⟩:=bt (aqd Y.o (.cells #[.string N] 9)) ah
        exact⟨_,_,_,Q⟩
      refine⟨_,_,fM,AH.o,by simp;omega,?_,?_⟩
      ·rw[sr.o]
       have :oO (n.filterMap (jg m.toList s)++[(N,hW)])=oO (n.filterMap (jg m.toList s))++[N]:=by unfold oO;simp[ad]
       rw[this];exact qb.o
      ·exact(bf.o.alloc ad6 _).grown mm.o (by simp;omega) (fun k M=>(aoT Y.o k M).1)
     case measure=>
      have fM:Walk m t i p.heap.size (seen.push f.born) (n++[f]) w3:=by
       refine Walk.grown ?_ mm.o (fun g ah=> ?_)
       ·exact⟨(hV B _ (ao1.1 q.o.map).1).trans q.o.map,(hV B _ (ao1.1 q.o.iter).1).trans q.o.iter,q.o.seen,q.o.sub⟩
       ·obtain⟨b2,Q⟩:=bt (aqd Y.o (.cells #[.string N] 9)) ah
        exact⟨_,_,_,Q⟩
      rw[fM.left,F.o.left];exact sC
    ·go_wp2
     go_roundw
     case rel=>
      refine⟨_,_,q.o,AH.o,by simp;omega,?_,bf.o⟩;rw[sr.o];have :oO (n.filterMap (jg m.toList s)++[(N,hW)])=oO (n.filterMap (jg m.toList s)):=by unfold oO;simp[ad]
      rw[this];exact Y.o
     case measure=>rw[q.o.left,F.o.left];exact sC
theorem Va {κ ν:Type} [DecidableEq κ] {x:κ}:∀{m:List (κ×ν)} {i:Nat},x∉m.map (·.1)->kk x m i=none
 |[],_,_=>rfl
 |p::m,i,h=>by
  simp only[apb,ao3,not_or]at h;unfold kk;rw[if_neg h.1];exact Va h.2
theorem Vb {κ ν:Type} [DecidableEq κ] {x:κ} {m:List (κ×ν)} (h:x∉m.map (·.1)) (v:ν):cv x v m=m++[(x,v)]:=(Nh (Va h)).1 v
theorem Vc {κ ν:Type} {r:κ->Value} {s:ν->Value} {a:List (κ×ν)} (k:(h.map (·.born)).Nodup) (t:kL r s h a) (l:(a.map (·.1)).Nodup) {d:List MapEntry} (u:∀e∈d,e∈h) {e:MapEntry} (v:e∈h) (m:((d++[e]).map (·.born)).Nodup) {p:κ×ν} (b:jg h a e=some p):
  p.1∉(d.filterMap (jg h a)).map (·.1):=by
 have n:h.length=a.length:=by have :=congrArg List.length t;simpa using this
 intro w;obtain⟨q,x,f⟩:=aoX.1 w;obtain⟨y,o,c⟩:=List.mem_filterMap.1 x;obtain⟨i,z,rfl⟩:=apl.1 v;obtain⟨j,B,rfl⟩:=apl.1 (u y o);rw[KN k n z]at b;rw[KN k n B]at c;injection b with b;injection c with c;rw[<-b,<-c]at f;have C:i=j:=by
  apply Classical.byContradiction;intro D;rcases aro D with g|g
  ·exact apM.1 l i j (by simp;omega) (by simp;omega) g (by simpa using f.symm)
  ·exact apM.1 l j i (by simp;omega) (by simp;omega) g (by simpa using f)
 subst C;rw[ao8,aps]at m;exact m.2.2 h[i].born (aoX.2 ⟨_,o,rfl⟩) h[i].born (by simp) rfl
theorem aP.set{wr}(h:aP i l wr)(d:a=wr\/a=wr.drew)(g:l.heap.size<=b)(o:Obj):aP i l (setBlock a b o):=by
 have c:a.heap=wr.heap/\a.os=wr.os/\a.tape=wr.tape/\a.output=wr.output:=by rcases d with rfl|rfl<;>exact⟨rfl,rfl,rfl,rfl⟩
 refine⟨c.2.1.trans h.os,c.2.2.1.trans h.tape,c.2.2.2.trans h.output,by simp[setBlock,c.1];exact h.size,fun k e f=> ?_⟩;have :b≠k:=by omega
 simp[setBlock,aqj,this,c.1];exact h.other k e f
theorem aP.OD{wr}(h:aP i a wr)(o:Obj):aP i a (wr.alloc o):=
 ⟨h.os,h.tape,h.output,by have :=h.size;simp;omega,fun k b c=>(hV wr o (aoV b h.size)).trans (h.other k b c)⟩
theorem aP.Vd{wr}(h:aP i a wr):aP i a wr.drew:=⟨h.os,h.tape,h.output,h.size,h.other⟩
theorem Walk.put{seen}(c:Walk f j b d seen h a)(g:e≠b)(i:e≠d)(o:Obj):Walk f j b d seen h (putObj a e o):=
 ⟨(tA (ao5 g)).trans c.map,(tA (ao5 i)).trans c.iter,c.seen,c.sub⟩
theorem Walk.alloc{a c b r seen l w}(h:Walk a c b r seen l w)(o:Obj):Walk a c b r seen l (w.alloc o):=
 ⟨(hV w _ (ao1.1 h.map).1).trans h.map,(hV w _ (ao1.1 h.iter).1).trans h.iter,h.seen,h.sub⟩
theorem ad7{m}(I:isMap cX oH a e [] k j)(t:isMap cX oH a d m f b)(R:e≠d)(hk:(m.map (·.1)).Nodup):
  O 302 #[.map (some e),.map (some d)] a fun g S=>(∃r,g=.returned r)/\(∃U u v,U.Perm m/\isMap cX oH S e U u v)/\aP (fun i=>i=e) a S:=by
 have po:=run_range_map (P:=prog) a 159 36 57 d f b underlying159 t.blk;go_enter func302,ntmps302;have cP:=I.lt;have fN:=t.lt;have G2:=aa (show Walk f b d a.heap.size #[] [] (a.alloc (.mapIter (some d) b #[] b)) from⟨(hV a _ fN).trans t.blk,heap_alloc_new a _,rfl,fun g n=>by cases n⟩);have iB:=aa (show isMap cX oH (a.alloc (.mapIter (some d) b #[] b)) e [] k j from I.af ((aoQ _ a).alloc (aoP _) _));have p:=aa t;clear t I;go_wp2;go_loopw [4] (fun _ wr=>∃seen q,Walk f b d a.heap.size seen q wr/\(q.map (·.born)).Nodup/\(∃u v,isMap cX oH wr e (q.filterMap (jg f.toList m)) u v)/\aP (fun i=>i=e) a wr) (fun _ wr=>EJ d a.heap.size wr)
 case atStart=>exact⟨#[],[],G2.o,by simp,⟨_,_,iB.o⟩,aP.cQ ((aoQ _ a).alloc (aoP _) _)⟩
 case round=>
  obtain⟨seen,q,W,X,⟨u,v,Y⟩,xE⟩:=hrel;have s:=aa W;clear W;have e0:=aa X;clear X;have L:=aa Y;clear Y;have fP:=aa xE;clear xE;rcases run_next_at (P:=prog) wr 0 a.heap.size d b b seen f b s.o.iter s.o.map p.o.old (aoP _) with⟨uE,C⟩|⟨g,n,ml,D,C⟩
  ·have ag:=s.o.all p.o.nodup e0.o uE
   have ed:=aa (show(q.filterMap (jg f.toList m)).Perm m by
    have h1:=ag.filterMap (jg f.toList m);rwa [Oz p.o.nodup (by have :=p.o.len;simpa using this)]at h1)
   go_wp2;go_end0
   exact⟨⟨_,rfl⟩,⟨_,_,_,ed.o,L.o⟩,fP.o⟩
  ·have M:g∈f.toList:=by unfold leftOf at n;simp at n;simpa using n.1
   obtain⟨⟨⟨w,x⟩,⟨y,z,B⟩⟩,pz,CK,AG,AE⟩:=OA p.o.nodup p.o.mD M;have E:=aa (s.o.next (by omega) n D);have AH:=aa (show((q++[g]).map (·.born)).Nodup by
    rw[ao8,aps];refine⟨e0.o,by simp,fun l N c hc xr=> ?_⟩;simp at hc;subst hc;unfold leftOf at n;simp at n;rw[<-s.o.seen]at N;rw[xr]at N;exact n.2 (by simpa using N))
   have ly:=aa (GP n);have iC:=aa (fP.o.set D (aoP _) (.mapIter (some d) b (seen.push g.born) b));have dD:=aa (show isMap cX oH (setBlock ml a.heap.size (.mapIter (some d) b (seen.push g.born) b)) e (q.filterMap (jg f.toList m)) u v from L.o.gE ((Kr D _ _).block e L.o.lt (by simp;omega)));obtain⟨F,eD⟩:∃F,F=setBlock ml a.heap.size (.mapIter (some d) b (seen.push g.born) b):=⟨_,rfl⟩;rw[<-eD]at C E iC dD;clear eD D;have nM:=run_entry_at (P:=prog) F a.heap.size d b seen f b g E.o.iter E.o.map M p.o.nodup;rw[AG,AE]at C nM;simp only[cX,oH]at C nM;have sr:=aa (show(q++[g]).filterMap (jg f.toList m)=q.filterMap (jg f.toList m)++[((w,x),(y,z,B))] by rw[List.filterMap_append];simp[CK]);have vY:=aa (Vc p.o.nodup p.o.mD hk s.o.sub M AH.o CK);have lZ:=aa ((iC.o.OD (.cells #[A w,A x] 36)).OD (.cells #[A y,A z,A B] 57));have hg:=aa ((E.o.alloc (.cells #[A w,A x] 36)).alloc (.cells #[A y,A z,A B] 57));have mm:=aa (dD.o.af (((aoQ _ F).alloc (aoP _) (.cells #[A w,A x] 36)).alloc (by simp) (.cells #[A y,A z,A B] 57)));obtain⟨KR,OE,rJ,Q⟩:=xc xd mm.o underlying159 (w,x) (y,z,B);rw[Vb vY.o,<-sr.o]at Q;simp only[cX,oH]at rJ;have oi:=aa Q;clear Q;have sC:=ly.o;go_wp2
   try go_region
   all_goals(try go_wp2)
   all_goals go_roundw
   case rel=>exact⟨_,_,hg.o.put R (by omega) _,AH.o,⟨_,_,oi.o⟩,lZ.o.trans (aP.put _ rfl)⟩
   case measure=>rw[(hg.o.put R (by omega) _).left,s.o.left];exact sC
theorem ad8{m}(z:isMap mE sA a e [] k j)(t:isMap mE sA a d m f b)(I:e≠d)(hk:(m.map (·.1)).Nodup):
  O 303 #[.map (some e),.map (some d)] a fun g L=>(∃r,g=.returned r)/\(∃M u v,M.Perm m/\isMap mE sA L e M u v)/\aP (fun i=>i=e) a L:=by
 have po:=run_range_map (P:=prog) a 168 9 159 d f b underlying168 t.blk;go_enter func303,ntmps303;have cP:=z.lt;have fN:=t.lt;have G2:=aa (show Walk f b d a.heap.size #[] [] (a.alloc (.mapIter (some d) b #[] b)) from⟨(hV a _ fN).trans t.blk,heap_alloc_new a _,rfl,fun g n=>by cases n⟩);have iB:=aa (show isMap mE sA (a.alloc (.mapIter (some d) b #[] b)) e [] k j from z.af ((aoQ _ a).alloc (aoP _) _));have p:=aa t;clear t z;go_wp2;go_loopw [4] (fun _ wr=>∃seen q,Walk f b d a.heap.size seen q wr/\(q.map (·.born)).Nodup/\(∃u v,isMap mE sA wr e (q.filterMap (jg f.toList m)) u v)/\aP (fun i=>i=e) a wr) (fun _ wr=>EJ d a.heap.size wr)
 case atStart=>exact⟨#[],[],G2.o,by simp,⟨_,_,iB.o⟩,aP.cQ ((aoQ _ a).alloc (aoP _) _)⟩
 case round=>
  obtain⟨seen,q,N,Q,⟨u,v,R⟩,S⟩:=hrel;have s:=aa N;clear N;have U:=aa Q;clear Q;have B:=aa R;clear R;have W:=aa S;clear S;rcases run_next_at (P:=prog) wr 0 a.heap.size d b b seen f b s.o.iter s.o.map p.o.old (aoP _) with⟨uE,w⟩|⟨g,n,X,x,w⟩
  ·have ag:=s.o.all p.o.nodup U.o uE
   have ed:=aa (show(q.filterMap (jg f.toList m)).Perm m by
    have h1:=ag.filterMap (jg f.toList m);rwa [Oz p.o.nodup (by have :=p.o.len;simpa using this)]at h1)
   go_wp2;go_end0
   exact⟨⟨_,rfl⟩,⟨_,_,_,ed.o,B.o⟩,W.o⟩
  ·have C:g∈f.toList:=by unfold leftOf at n;simp at n;simpa using n.1
   obtain⟨⟨Y,hW⟩,pz,CK,AG,AE⟩:=OA p.o.nodup p.o.mD C;have y:=aa (s.o.next (by omega) n x);have AH:=aa (show((q++[g]).map (·.born)).Nodup by
    rw[ao8,aps];refine⟨U.o,by simp,fun l D c hc xr=> ?_⟩;simp at hc;subst hc;unfold leftOf at n;simp at n;rw[<-s.o.seen]at D;rw[xr]at D;exact n.2 (by simpa using D))
   have ly:=aa (GP n);have iC:=aa (W.o.set x (aoP _) (.mapIter (some d) b (seen.push g.born) b));have dD:=aa (show isMap mE sA (setBlock X a.heap.size (.mapIter (some d) b (seen.push g.born) b)) e (q.filterMap (jg f.toList m)) u v from B.o.gE ((Kr x _ _).block e B.o.lt (by simp;omega)));obtain⟨E,eD⟩:∃E,E=setBlock X a.heap.size (.mapIter (some d) b (seen.push g.born) b):=⟨_,rfl⟩;rw[<-eD]at w y iC dD;clear eD x;have nM:=run_entry_at (P:=prog) E a.heap.size d b seen f b g y.o.iter y.o.map C p.o.nodup;rw[AG,AE]at w nM;simp only[mE,sA]at w nM;have sr:=aa (show(q++[g]).filterMap (jg f.toList m)=q.filterMap (jg f.toList m)++[(Y,hW)] by rw[List.filterMap_append];simp[CK]);have vY:=aa (Vc p.o.nodup p.o.mD hk s.o.sub C AH.o CK);have lZ:=aa iC.o;have hg:=aa y.o;have mm:=aa dD.o;obtain⟨KR,OE,rJ,F⟩:=xc Gs mm.o underlying168 Y hW;rw[Vb vY.o,<-sr.o]at F;simp only[mE,sA]at rJ;have oi:=aa F;clear F;have sC:=ly.o;go_wp2
   try go_region
   all_goals(try go_wp2)
   all_goals go_roundw
   case rel=>exact⟨_,_,hg.o.put I (by omega) _,AH.o,⟨_,_,oi.o⟩,lZ.o.trans (aP.put _ rfl)⟩
   case measure=>rw[(hg.o.put I (by omega) _).left,s.o.left];exact sC
theorem ad9(g:Option Nat)(w:World):
  O 302 #[.map g,.map none] w fun e a=>(∃r,e=.returned r)/\J w a:=by
 have c:=run_range_nilMap (P:=prog) w 159 36 57 underlying159;have d:=run_next_nilMap (P:=prog) w 0 0 0 #[];have b:=aa ((aoQ w.heap.size w).alloc (aoP _) (.mapIter none 0 #[] 0));go_enter func302,ntmps302;go_wp2;go_loopw [4] (fun _ wr=>wr=w.alloc (.mapIter none 0 #[] 0)) (fun _ _=>0)
 case atStart=>rfl
 case round=>
  subst hrel;go_wp2;go_end0
  exact⟨⟨_,rfl⟩,b.o⟩
theorem aea(g:Option Nat)(w:World):
  O 303 #[.map g,.map none] w fun e a=>(∃r,e=.returned r)/\J w a:=by
 have c:=run_range_nilMap (P:=prog) w 168 9 159 underlying168;have d:=run_next_nilMap (P:=prog) w 0 0 0 #[];have b:=aa ((aoQ w.heap.size w).alloc (aoP _) (.mapIter none 0 #[] 0));go_enter func303,ntmps303;go_wp2;go_loopw [4] (fun _ wr=>wr=w.alloc (.mapIter none 0 #[] 0)) (fun _ _=>0)
 case atStart=>rfl
 case round=>
  subst hrel;go_wp2;go_end0
  exact⟨⟨_,rfl⟩,b.o⟩
end
section
open Go.RowKit Tryz
variable {a:World}{b d i:Nat}{e l m n u v:Value}{f:List (PId×dR)}{h:Option Nat}{j:Nat->Prop}{k:TypeId}{q:List (PId×dS)}{r:List (PId×eI)}{s:List PId}
def qR (a:List PId) (b:List (PId×dR)):List (PId×dR):=b.filter fun p=>decide (p.1∉a)
theorem aeb(a:List (PId×dR)):qR [] a=a:=by simp[qR]
theorem Ve {κ ν:Type} [DecidableEq κ] (x:κ):∀{m:List (κ×ν)},(m.map (·.1)).Nodup->pg x m=m.filter fun p=>decide (p.1≠x)
 |[],_=>rfl
 |p::m,h=>by
  simp only[apb,apg]at h;unfold pg;by_cases a:x=p.1
  ·rw[if_pos a]
   subst a;rw[List.filter_cons_of_neg (by simp)]
   symm
   rw[List.filter_eq_self];intro q b;simp only[ne_eq,decide_eq_true_eq];intro e;exact h.1 (e▸aoX.2 ⟨q,b,rfl⟩)
  ·rw[if_neg a,Ve x h.2,List.filter_cons_of_pos (by simpa using fun e=>a e.symm)]
theorem aec(a:b<s.length){m:List (PId×dR)}(c:(f.map (·.1)).Nodup)(h:m.Perm (qR (s.take b) f)):(pg s[b] m).Perm (qR (s.take (b+1)) f):=by
 have d:(m.map (·.1)).Nodup:=(h.map (·.1)).nodup_iff.2 ((List.filter_sublist.map _).nodup c);rw[Ve _ d];refine(h.filter _).trans (List.Perm.of_eq ?_);unfold qR;rw[List.filter_filter];congr 1;funext p;have e:p.1∈s.take (b+1)↔p.1∈s.take b\/p.1=s[b]:=by rw[aph a,aoZ,ao2]
 simp only[e,not_or,ne_eq,Bool.decide_and];exact Bool.and_comm _ _
theorem aP.under{S b}(h:aP S a b){n:Nat}(c:∀k,S k->n<=k)(e:n<=a.heap.size):Below n a b:=
 ⟨h.os,h.tape,h.output,h.size,fun k f=>h.other k (by omega) (fun d=>by have :=c k d;omega)⟩
theorem aed{m}(j:isMap cX oH a b [] m d)(n:iN a h f)(o:∀c,h=some c->b≠c)(p:(f.map (·.1)).Nodup):
  O 302 #[.map (some b),.map h] a fun e g=>(∃r,e=.returned r)/\(∃l q s,l.Perm f/\isMap cX oH g b l q s)/\aP (fun k=>k=b) a g:=by
 rcases n with⟨rfl,rfl⟩|⟨c,u,v,rfl,t⟩
 ·exact(ad9 (some b) a).mono fun e g i=>⟨i.1,⟨[],_,_,List.Perm.refl _,j.af i.2⟩,aP.cQ i.2⟩
 ·exact ad7 j t (o c rfl) p
theorem aee{f m}(j:isMap mE sA a b [] m d)(n:rF a h f)(o:∀c,h=some c->b≠c)(p:(f.map (·.1)).Nodup):
  O 303 #[.map (some b),.map h] a fun e g=>(∃r,e=.returned r)/\(∃l q s,l.Perm f/\isMap mE sA g b l q s)/\aP (fun k=>k=b) a g:=by
 rcases n.1 with⟨rfl,rfl⟩|⟨c,u,v,rfl,t⟩
 ·exact(aea (some b) a).mono fun e g i=>⟨i.1,⟨[],_,_,List.Perm.refl _,j.af i.2⟩,aP.cQ i.2⟩
 ·exact ad8 j t (o c rfl) p
theorem EX(t:TypeId)(w:World):(Instr.makeMap t none).run prog w=.ok (.map (some w.heap.size)) (w.alloc (.map #[] 0)):=rfl
theorem iN.lt{w v d}(h:iN w v d)(b:Nat)(a:v=some b):b<w.heap.size:=by
 rcases h with⟨rfl,_⟩|⟨c,f,g,rfl,e⟩
 ·cases a
 ·injection a with a;subst a;exact e.lt
theorem isMap.fresh {κ ν:Type} (a:κ->Value) (b:ν->Value) (w:World):isMap a b (w.alloc (.map #[] 0)) w.heap.size [] #[] 0:=⟨heap_alloc_new w _,rfl,by simp,by simp⟩
theorem Vf{v}(t:iN a v f)(p:(f.map (·.1)).Nodup)(w:er a e s):
  O 300 #[.map v,e] a fun c B=>(∃g d j l,c=.returned (.map (some g))/\a.heap.size<=g/\d.Perm (qR s f)/\isMap cX oH B g d j l)/\J a B:=by
 have C:=aa ((aoQ a.heap.size a).alloc (aoP _) (.map #[] 0));have N:=aa (aed (isMap.fresh cX oH a) (t.af C.o) (fun b P=>by have :=t.lt b P;omega) p);clear t;have Q:=aa w;obtain⟨kB,kC,rfl,uz,R,D⟩:=bp w;unfold maxLen at R;have U:=aa D;clear w D;have CL:=EX 159;go_enter func300,ntmps300;go_wp2_with fail
 refine N.o.mono ?_;rintro c w1 ⟨⟨r,rfl⟩,⟨W,X,Y,E,F⟩,I⟩;have ax:=aa (C.o.trans (I.under (n:=a.heap.size) (fun k p=>by omega) (by simp)));clear I;have jo:=aa E;clear E;have uS:=aa F;clear F;go_wp2;go_loopw [14] (fun i wr=>∃k:Nat,k<=s.length/\i=A k/\(∃d j l,d.Perm (qR (s.take k) f)/\isMap cX oH wr a.heap.size d j l)/\J a wr) (fun i _=>s.length-(intOf i).toNat)
 case atStart=>exact⟨0,aoR _,rfl,⟨W,X,Y,by rw[List.take_zero,aeb];exact jo.o,uS.o⟩,ax.o⟩
 case round=>
  obtain⟨k,eh,rfl,⟨d,j,l,q,x⟩,m⟩:=hrel;by_cases y:k<s.length
  ·obtain⟨u,rfl⟩:=U.o k y
   obtain⟨bc,a6⟩:=er.cells (Q.o.af m) rfl k y;have am0:u<wr.heap.size:=ao4 wr _ bc;have sj:=m.size;have z:=aa (aec y p q);clear q;have bM:=aa (m.alloc sj (.cells #[A s[k].1,A s[k].2] 36));have L:=x.af ((aoQ wr.heap.size wr).alloc (aoP _) (.cells #[A s[k].1,A s[k].2] 36));obtain⟨KR,hcut,M⟩:=SZ xd L underlying159 (ty:=0) (t2:=36) s[k];simp only[cX]at hcut;have oi:=aa M;clear M x L m;go_wp2
   try go_region
   all_goals(try go_wp2)
   all_goals go_roundw
   case rel=>exact⟨k+1,by omega,by go_num,⟨_,_,_,z.o,oi.o⟩,bM.o.trans (aP.under (aP.put (S:=fun k=>k=a.heap.size) _ rfl) (fun k p=>by omega) (by simp;omega))⟩
   case measure=>simp[intOf];omega
  ·have z:=aa q;clear q
   go_wp2;go_ret
   refine⟨⟨_,d,j,l,rfl,aoP _,?_,x⟩,m⟩;have :=z.o;rwa [apc (by omega)]at this
theorem aef(h:a.heap[b]?=some (.cells #[e,l,m,n,v] k (0,0))):(a.setCell (K b 4) u).heap[b]?=some (.cells #[e,l,m,n,u] k (0,0)):=by
 have c:=aM h;obtain⟨_,d⟩:=ao1.1 h;simp[World.setCell,c,ap2,d]
theorem aeg{v aB}(h:cu a i d b r q)(U:fR d b j r q)(x y l m:Int){z:dS}(W:bq (l,m) q=some z)(X:iN a v aB)(bB:∀c,v=some c->j c):
  O 301 #[Z i,.agg #[A x,A y,.string ⟨#[]⟩,A l,A m],.map v] a fun e Y=>(∃f,e=.returned f)/\
   cu Y i d b r (cv (l,m) {z with v:=v,aB:=aB} q)/\fR d b j r (cv (l,m) {z with v:=v,aB:=aB} q)/\aP (fun k=>k=b) a Y:=by
 have t:=aa ((aoQ a.heap.size a).alloc (aoP _) (.cells #[A x,A y,.string ⟨#[]⟩,A l,A m] 97));have L:=aa (bL a (.cells #[A x,A y,.string ⟨#[]⟩,A l,A m] 97));obtain⟨⟨q1,B⟩,⟨C,D⟩,mL,CG⟩:=z;have nk:=aa W;clear W;have dN:=aa X;clear X;have u:=aa h;clear h;have cL:=aa U;clear U;obtain⟨g,E⟩:∃g,g=a.alloc (.cells #[A x,A y,.string ⟨#[]⟩,A l,A m] 97):=⟨_,rfl⟩;rw[<-E]at t L;go_enter func301,ntmps301;go_wp2;rw[<-E];have KT:a.heap.size<g.heap.size:=by rw[E];simp
 clear E;obtain⟨eO,fL,kM,mJ,qM⟩:=ga L.o;have a6:=(u.o.af t.o).a6;have gP:=u.o.lt;have T1:=(u.o.af t.o).lt;have hz1:=t.o.size;have M:=(u.o.af t.o.drew).sB l m false;have N:=(u.o.af (t.o.alloc hz1 (.cells #[A 0,A 0,A 0,A 0,.map none] 176)).drew).sB l m false;rw[nk.o]at M N;simp only[apw,apr,apG,if_false,oI]at M N;go_cut [6] (fun p wc=>p=Z g.heap.size/\wc=(g.alloc (.cells #[A q1,A B,A C,A D,.map mL] 176)).drew)
 case first =>
  go_region
  all_goals(go_wp2_with fail;go_meet)
  all_goals exact⟨rfl,rfl⟩
 case rest=>
  obtain⟨rfl,P⟩:=hcut;have k8:=aa (show J g wc by rw[P];exact((aoQ _ g).alloc (aoP _) _).drew);have F:=aa (show wc.heap[g.heap.size]?=some (.cells #[A q1,A B,A C,A D,.map mL] 176 (0,0)) by rw[P];exact bL g _);have w:=aa (t.o.trans (k8.o.mono hz1));clear P eO fL kM mJ qM a6 M N;have KU:=aa (bj L.o k8.o);have yU:=aa (u.o.af w.o);obtain⟨c7,CM,CN,k6,yF⟩:=ga F.o;have of:=cS F.o;go_wp2;obtain⟨n,s⟩:∃n,n=wc.setCell (V g 4) (.map v):=⟨_,rfl⟩;rw[<-s];have I:∀k,k≠g.heap.size->n.heap[k]?=wc.heap[k]?:=fun k Q=>by rw[s,apj _ _ _ _ Q]
  have eE:=aa (show n.heap[g.heap.size]?=some (.cells #[A q1,A B,A C,A D,.map v] 176 (0,0)) by rw[s];exact aef F.o);have sK:=aa (yU.o.other I (by omega) F.o);have OG:=aa ((I _ (by omega)).trans KU.o);have fw:=aa (show J a n from⟨by rw[s];exact w.o.os,by rw[s];exact w.o.tape,by rw[s];exact w.o.output,by rw[s];have :=w.o.size;simpa[World.setCell]using this,fun k Q=>by rw[I k (by omega),w.o.block k Q]⟩);clear s I c7 CM CN k6 yF of;obtain⟨eO,fL,kM,mJ,qM⟩:=ga OG.o;obtain⟨c7,CM,CN,k6,yF⟩:=ga eE.o;have a6:=sK.o.a6;have lW:=aa (show J n n.drew from(aoQ _ n).drew);obtain⟨jt,ju,CI,gF,fv⟩:=(sK.o.af lW.o).yT cL.o (l,m) ⟨(q1,B),(C,D),v,aB⟩ (dN.o.af fw.o.drew) bB;simp only[cX,oI]at CI;have R:=aa (And.intro gF (And.intro fv ((aP.cQ fw.o.drew).trans (aP.put (S:=fun k=>k=b) (.map jt ju) rfl))));clear gF fv;go_wp2;go_region
  all_goals(try go_wp2)
  all_goals exact bodyPost_ret (v:=.tuple #[]) (by simp[results,results301,go_sem]) rfl ⟨⟨_,rfl⟩,R.o.1,R.o.2.1,R.o.2.2⟩
theorem EY{f:Nat×Nat}(h:a.heap[b]?=some (.cells #[e,l,m,n] k f)):
  a.cell? (H b)=some e/\a.cell? (K b 1)=some l/\a.cell? (K b 2)=some m/\a.cell? (K b 3)=some n:=by simp[World.cell?,h]
theorem aeh(h:a.heap[b]?=some (.cells #[e,u,l,m] k (0,0))):(a.setCell (K b 1) n).heap[b]?=some (.cells #[e,n,l,m] k (0,0)):=by
 have c:=aM h;obtain⟨_,d⟩:=ao1.1 h;simp[World.setCell,c,ap2,d]
theorem rF.lt{w v d}(h:rF w v d)(b:Nat)(a:v=some b):b<w.heap.size:=by
 rcases h.1 with⟨rfl,_⟩|⟨c,f,g,rfl,e⟩
 ·cases a
 ·injection a with a;subst a;exact e.lt
theorem aei{v}(h:cu a i b d r q)(ae:fR b d j r q)(t u I L:Int){s:ByteArray}(ha:s≠⟨#[]⟩){D:eI}(b3:bq (t,u) r=some D)(cB:(D.ks.map (·.1)).Nodup)(aH:iN a v f)(bB:∀c,v=some c->j c)(qc:∀k,a.heap.size<=k->j k):
  O 301 #[Z i,.agg #[A t,A u,.string s,A I,A L],.map v] a fun e w'=>(∃l,e=.returned l)/\
   (∃g pB,pB.Perm D.ks/\cu w' i b d (cv (t,u) {D with fE:=some g,ks:=cv s ⟨v,f⟩ pB} r) q/\fR b d j (cv (t,u) {D with fE:=some g,ks:=cv s ⟨v,f⟩ pB} r) q)/\aP (fun k=>k=b) a w':=by
 have hr:=GX ha;have B:=aa ((aoQ a.heap.size a).alloc (aoP _) (.cells #[A t,A u,.string s,A I,A L] 97));have uT:=aa (bL a (.cells #[A t,A u,.string s,A I,A L] 97));obtain⟨M,xx,lU,⟨N,P⟩⟩:=D;have nn:=aa cB;clear cB;have nO:=aa b3;clear b3;have dN:=aa aH;clear aH;have C:=aa h;clear h;have cL:=aa ae;clear ae;have oM:=aa qc;clear qc;simp only at nn;obtain⟨m,Q⟩:∃m,m=a.alloc (.cells #[A t,A u,.string s,A I,A L] 97):=⟨_,rfl⟩;rw[<-Q]at B uT;go_enter func301,ntmps301;go_wp2;rw[<-Q];have KT:a.heap.size<m.heap.size:=by rw[Q];simp
 clear Q;obtain⟨R,U,W,X,Y⟩:=ga uT.o;have a6:=(C.o.af B.o).bc;have gP:=C.o.lt;have T1:=(C.o.af B.o).lt;have hz1:=B.o.size;have dz:=(C.o.af B.o.drew).vP t u false;have cy:=(C.o.af (B.o.alloc hz1 (.cells #[.bool false,.map none,A 0,A 0] 170)).drew).vP t u false;rw[nO.o]at dz cy;simp only[apw,apr,apG,if_false,pn]at dz cy;go_cut [7] (fun p wc=>p=Z m.heap.size/\wc=(m.alloc (.cells #[.bool M,.map xx,A N,A P] 170)).drew)
 case first =>
  go_region
  all_goals(go_wp2_with fail;go_meet)
  all_goals exact⟨rfl,rfl⟩
 case rest=>
  obtain⟨rfl,jX⟩:=hcut;have k8:=aa (show J m wc by rw[jX];exact((aoQ _ m).alloc (aoP _) _).drew);have qP:=aa (show wc.heap[m.heap.size]?=some (.cells #[.bool M,.map xx,A N,A P] 170 (0,0)) by rw[jX];exact bL m _);have dr:=aa (B.o.trans (k8.o.mono hz1));clear jX R U W X Y a6 dz cy;have KU:=aa (bj uT.o k8.o);have aej:=aM qP.o;have aek:=aM KU.o;have AB:=aa ((C.o.hk _ (fQ nO.o)));have oP:=aa (show J a (wc.alloc (.map #[] 0)) from dr.o.alloc dr.o.size _);have dj:=aa (aee (isMap.fresh mE sA wc) (AB.o.af oP.o) (fun c y=>by have :=AB.o.lt c y;omega) nn.o);have CL:=EX 168;have Vh:=aa (show(wc.alloc (.map #[] 0)).heap[m.heap.size]?=_ from(hV wc _ aej).trans qP.o);have G4:=aa (show(wc.alloc (.map #[] 0)).heap[a.heap.size]?=_ from(hV wc _ aek).trans KU.o);obtain⟨c7,CM,CN,k6⟩:=EY Vh.o;go_wp2_with fail
  refine dj.o.mono ?_;rintro e w3 ⟨⟨l,rfl⟩,⟨m3,KR,OE,nF,lC⟩,KV⟩;have hY:=aa nF;clear nF;have oi:=aa lC;clear lC;have lM:=aa ((KV.other m.heap.size (by simp;omega) (by omega)).trans Vh.o);have Vi:=aa ((KV.other a.heap.size (by simp;omega) (by omega)).trans G4.o);have bK:=aa (oP.o.trans (KV.under (n:=a.heap.size) (fun k w=>by omega) (by simp;omega)));clear KV;clear c7 CM CN k6;obtain⟨AJ,G5,rJ,vZ⟩:=xc Gs oi.o underlying168 s ⟨v,f⟩;simp only[mE,sA]at rJ;have zb:=aa vZ;clear vZ;have E:=aa (show J a (putObj w3 wc.heap.size (.map AJ G5)) from bK.o.trans (aP.under (aP.put (S:=fun k=>k=wc.heap.size) _ rfl) (fun k w=>by omega) bK.o.size));have F:=aa (show(putObj w3 wc.heap.size (.map AJ G5)).heap[m.heap.size]?=_ from(tA (by omega)).trans lM.o);have Vj:=aa (show(putObj w3 wc.heap.size (.map AJ G5)).heap[a.heap.size]?=_ from(tA (by omega)).trans Vi.o);obtain⟨w4,gA⟩:∃w4,w4=putObj w3 wc.heap.size (.map AJ G5):=⟨_,rfl⟩;rw[<-gA]at rJ zb E F Vj;obtain⟨c7,CM,CN,k6⟩:=EY F.o;have of:=cS F.o;obtain⟨R,U,W,X,Y⟩:=ga Vi.o;have h4l:=aM F.o;clear gA;go_wp2;obtain⟨x,z⟩:∃x,x=w4.setCell (V m 1) (.map (some wc.heap.size)):=⟨_,rfl⟩;rw[<-z];have dY:∀k,k≠m.heap.size->x.heap[k]?=w4.heap[k]?:=fun k w=>by rw[z,apj _ _ _ _ w]
  have HO5:=aa (show x.heap[m.heap.size]?=some (.cells #[.bool M,.map (some wc.heap.size),A N,A P] 170 (0,0)) by rw[z];exact aeh F.o);have HP5:=aa ((dY _ (by omega)).trans Vj.o);have lD:=aa (show J a x from⟨by rw[z];exact E.o.os,by rw[z];exact E.o.tape,by rw[z];exact E.o.output,by rw[z];have :=E.o.size;simpa[World.setCell]using this,fun k w=>by rw[dY k (by omega),E.o.block k w]⟩);have xF:=aa (zb.o.gE (dY wc.heap.size (by omega)));have KW:=aa (C.o.af lD.o);clear z dY c7 CM CN k6 of R U W X Y rJ;obtain⟨R,U,W,X,Y⟩:=ga HP5.o;obtain⟨c7,CM,CN,k6⟩:=EY HO5.o;have a6:=KW.o.bc;have lW:=aa (show J x x.drew from(aoQ _ x).drew);have KX:rF x.drew (some wc.heap.size) (cv s ⟨v,f⟩ m3):=by
   refine⟨.inr ⟨_,_,_,rfl,xF.o.af lW.o⟩,fun p ag=> ?_⟩;rcases og ag with ag|rfl
   ·exact(AB.o.2 p (hY.o.mem_iff.1 ag)).af lD.o.drew
   ·exact dN.o.af lD.o.drew
  have Vk:∀k∈cv s ⟨v,f⟩ m3,∀c,k.2.v=some c->j c:=by
   intro k w c y;rcases og w with w|rfl
   ·exact cL.o.ij _ (fQ nO.o) k (hY.o.mem_iff.1 w) c y
   ·exact bB c y
  obtain⟨es6,ael,CI,gF,fv⟩:=(KW.o.af lW.o).CH cL.o (t,u) ⟨M,some wc.heap.size,cv s ⟨v,f⟩ m3,(N,P)⟩ KX (fun c y=>by injection y with y;subst y;exact oM.o _ (by omega)) Vk;simp only[cX,pn]at CI;have aT:=aa (And.intro gF (And.intro fv ((aP.cQ lD.o.drew).trans (aP.put (S:=fun k=>k=b) (.map es6 ael) rfl))));clear gF fv KX Vk;go_wp2;go_region
  all_goals(try go_wp2)
  all_goals go_end0
  all_goals exact⟨⟨_,rfl⟩,⟨_,m3,hY.o,aT.o.1,aT.o.2.1⟩,aT.o.2.2⟩
structure fG (D:cN):Prop where
 o:(D.1.map (·.1)).Nodup
 e:(D.2.map (·.1)).Nodup
 ks:∀p∈D.1,(p.2.ks.map (·.1)).Nodup
 fE:∀p∈D.1,∀k∈p.2.ks,(k.2.aB.map (·.1)).Nodup
 mL:∀p∈D.2,(p.2.aB.map (·.1)).Nodup
def AK (D:cN) (o:PId) (a:ByteArray) (x:PId) (v:Option Nat) (aB:List (PId×dR)) (c:cN):Prop:=
 (a=⟨#[]⟩/\∃d,bq x D.2=some d/\c=(D.1,cv x {d with v:=v,aB:=aB} D.2))\/
 (a≠⟨#[]⟩/\∃b g e,bq o D.1=some b/\e.Perm b.ks/\c=(cv o {b with fE:=some g,ks:=cv a ⟨v,aB⟩ e} D.1,D.2))
theorem fG.at{D}(h:fG D)(o:PId)(key:ByteArray)(x:PId):((eY D.1 D.2 o key x).aB.map (·.1)).Nodup:=by
 unfold eY;split
 ·split
  ·split
   ·rename_i e a;exact h.mL _ (fQ a)
   ·simp
  ·split
   ·split
    ·rename_i _ f b _ c d;exact h.fE _ (fQ b) _ (fQ d)
    ·simp
   ·simp
 ·simp
theorem Vl{D:cN}(c:cu a i b d D.1 D.2)(C:fR b d j D.1 D.2)(I:fG D)(o x:PId)(s:ByteArray)(p:lA D.1 D.2 o s x=true)(E:iN a h f)(F:∀l,h=some l->j l)(L:∀k,a.heap.size<=k->j k):
  O 301 #[Z i,.agg #[A o.1,A o.2,.string s,A x.1,A x.2],.map h] a fun e t=>(∃r,e=.returned r)/\
   (∃q,AK D o s x h f q/\cu t i b d q.1 q.2/\fR b d j q.1 q.2)/\aP (fun k=>k=b\/k=d) a t:=by
 obtain⟨v,w⟩:=o;obtain⟨y,z⟩:=x;unfold lA at p;by_cases m:s=⟨#[]⟩
 ·subst m
  rw[if_pos rfl]at p;cases B:bq (y,z) D.2 with
  |none=>rw[B]at p;cases p
  |some M=>
   exact(aeg c C v w y z B E F).mono fun e t n=>⟨n.1,⟨(D.1,_),.inl ⟨rfl,M,B,rfl⟩,n.2.1,n.2.2.1⟩,n.2.2.2.mono fun k m=>.inr m⟩
 ·rw[if_neg m]at p
  cases u:bq (v,w) D.1 with
  |none=>rw[u]at p;cases p
  |some N=>
   refine(aei c C v w y z m u (I.ks _ (fQ u)) E F L).mono fun e t n=>⟨n.1,?_,n.2.2.mono fun k m=>.inl m⟩
   obtain⟨g,P,Q,R,S⟩:=n.2.1;exact⟨(_,D.2),.inr ⟨m,N,g,P,u,Q,rfl⟩,R,S⟩
theorem aem(h:cu a b d i r q)(f g j k n p:Int)(l:ByteArray)(s:Value)(t:lA r q (f,g) l (j,k)=false):
  O 304 #[.agg #[A f,A g,.string l,A j,A k,s],Z b,.agg #[A n,A p]] a fun e w=>(∃c,e=.returned c)/\J a w:=by
 have m:=aa (((aoQ a.heap.size a).alloc (aoP _) (.cells #[A f,A g,.string l,A j,A k,s] 184)).alloc (by simp) (.cells #[A n,A p] 36));have u:=aa (GY (h.af m.o) f g j k l);rw[t]at u;clear h t;go_enter func304,ntmps304;go_wp2_with fail
 refine u.o.mono ?_;rintro e y ⟨rfl,v⟩;have x:=aa (m.o.trans (v.mono m.o.size));clear v;go_wp2;go_end0
 exact⟨⟨_,rfl⟩,x.o⟩
theorem aen{f:Nat×Nat}(h:a.heap[b]?=some (.cells #[e,l,m,n,u,v] k f)):
  a.cell? (H b)=some e/\a.cell? (K b 1)=some l/\a.cell? (K b 2)=some m/\a.cell? (K b 3)=some n/\a.cell? (K b 4)=some u/\a.cell? (K b 5)=some v:=by simp[World.cell?,h]
def AL (D:cN) (o:PId) (key:ByteArray) (x:PId) (c:List PId) (a:cN):Prop:=
 if lA D.1 D.2 o key x then ∃v b,b.Perm (qR c (eY D.1 D.2 o key x).aB)/\AK D o key x (some v) b a else a=D
theorem aeo{D:cN}(h:cu a i b d D.1 D.2)(U:fR b d j D.1 D.2)(W:fG D)(l m n p X Y:Int)(q:ByteArray)(ad:er a e s)(M:lA D.1 D.2 (l,m) q (n,p)=true)(qc:∀k,a.heap.size<=k->j k):
  O 304 #[.agg #[A l,A m,.string q,A n,A p,e],Z i,.agg #[A X,A Y]] a fun c w'=>(∃r,c=.returned r)/\
   (∃w v aB,aB.Perm (qR s (eY D.1 D.2 (l,m) q (n,p)).aB)/\AK D (l,m) q (n,p) (some v) aB w/\cu w' i b d w.1 w.2/\fR b d j w.1 w.2)/\aP (fun k=>k=b\/k=d) a w':=by
 have N:=aa (((aoQ a.heap.size a).alloc (aoP _) (.cells #[A l,A m,.string q,A n,A p,e] 184)).alloc (by simp) (.cells #[A X,A Y] 36));have b8:=aa (GY (h.af N.o) l m n p q);rw[M]at b8;have P:=aa h;clear h;have cL:=aa U;clear U;have pC:=aa W;clear W;have hT:=aa ad;clear ad;have db:=aa M;clear M;have oM:=aa qc;clear qc;go_enter func304,ntmps304;go_wp2_with fail
 refine b8.o.mono ?_;rintro c x ⟨rfl,Q⟩;have CO:=aa (show x.heap[a.heap.size]?=some (.cells #[A l,A m,.string q,A n,A p,e] 184 (0,0)) by rw[Q.block a.heap.size (by simp;omega)];exact mi (bL _ _));have R:=aa (N.o.trans (Q.mono N.o.size));clear Q;have hz1:=R.o.size;obtain⟨y,z,B,C,E,F⟩:=aen CO.o;have k9:=aa R.o.drew;have tN:=aa (show J x x.drew from(aoQ _ x).drew);have bR:=aa (KF (P.o.af k9.o) l m n p q);have dN:=aa (P.o.at (l,m) q (n,p));have nn:=aa (pC.o.at (l,m) q (n,p));go_wp2_with fail
 go_region_with (first
  |(go_at_call 86;refine bR.o.mono ?_;rintro c w2 ⟨rfl,aU⟩;have t:J x w2:=tN.o.trans aU;replace y:=af t y;replace z:=af t z;replace B:=af t B;replace C:=af t C;replace E:=af t E;replace F:=af t F;have iC:=aa (bj CO.o t);have I:=aa (R.o.trans (t.mono hz1));clear aU t;have hz2:=I.o.size;have dH:=aa (Vf (dN.o.af I.o) nn.o (hT.o.af I.o)))
  |(go_at_call 300;refine dH.o.mono ?_;rintro c w3 ⟨⟨g,m3,KR,OE,rfl,dv,nF,lC⟩,u⟩;replace y:=af u y;replace z:=af u z;replace B:=af u B;replace C:=af u C;replace E:=af u E;replace F:=af u F;have S:=aa (I.o.trans (u.mono hz2));have hY:=aa nF;have OH:=aa (show iN w3 (some g) m3 from .inr ⟨_,_,_,rfl,lC⟩);clear u nF lC;have oQ:=aa (Vl (P.o.af S.o) cL.o pC.o (l,m) (n,p) q db.o OH.o (fun f ab=>oM.o f (by injection ab with ab;omega)) (fun k hk=>oM.o k (aoS S.o.size hk))))
  |(go_at_call 301;refine oQ.o.mono ?_;rintro c w4 ⟨⟨r,rfl⟩,⟨w,iK,Vm,hj⟩,EZ⟩;have L:=aa (And.intro iK (And.intro Vm (And.intro hj ((aP.cQ S.o).trans EZ))));clear iK Vm hj EZ))
 all_goals(try go_wp2)
 all_goals go_end0
 all_goals exact⟨⟨_,rfl⟩,⟨_,_,_,hY.o,L.o.1,L.o.2.1,L.o.2.2.1⟩,L.o.2.2.2⟩
end
end Go.Proofs.YtnkpogjiiohapaaGreatDoor
