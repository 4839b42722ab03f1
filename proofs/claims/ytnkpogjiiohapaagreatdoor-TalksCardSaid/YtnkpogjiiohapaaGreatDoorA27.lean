/- Our own text. -/
import Derived.Deep.RegionHeld3
import Derived.Test.YtnkpogjiiohapaaGreatDoorA25
import Derived.Test.YtnkpogjiiohapaaGreatDoorA26
import Derived.Test.YtnkpogjiiohapaaGreatDoorA05
import Derived.Test.YtnkpogjiiohapaaGreatDoorA20
import Derived.Test.YtnkpogjiiohapaaGreatDoorA19
import Derived.Test.YtnkpogjiiohapaaGreatDoorA17
import Derived.Test.YtnkpogjiiohapaaGreatDoorA16
import Derived.Test.YtnkpogjiiohapaaGreatDoorA10
set_option linter.unusedSimpArgs false
set_option linter.unusedVariables false
set_option maxRecDepth 1000000
set_option maxHeartbeats 4000000
namespace Go.Proofs.YtnkpogjiiohapaaGreatDoor
section
open Go.RowKit Tryz
attribute [local go_sem ↓] Go.wp_at_zero Go.wp_at_succ
theorem Stepped.trans{r N sp F I c d e f W g i a q j s l t m}{h:World}(u:Stepped r N sp F I W g a q s c d t)(n:J g h)(v:Stepped r N sp c d h i a j l e f m):Stepped r N sp F I W i a j l e f m:=by
 obtain⟨E,L,o,w,x⟩:=u;obtain⟨y,z,B,C,D⟩:=v;refine⟨y,z,(o.after n).trans B,fun k b=>C k (w k b),fun k b=> ?_⟩;rcases D k b with p|p
 ·exact x k p
 ·exact .inr (by have :=o.size;have :=n.size;omega)
theorem Rc{W:World}{a b c:Nat}{d e f g h i:Value}{m n o:TypeId}(j:W.heap[a]?=some (.cells #[d,e] m (0,0)))(k:W.heap[b]?=some (.cells #[f,g] n (0,0)))(l:W.heap[c]?=some (.cells #[h,i] o (0,0))):W.cell? (H a)=some d/\W.cell? (K a 1)=some e/\W.cell? (H b)=some f/\W.cell? (K b 1)=some g/\W.cell? (H c)=some h/\W.cell? (K c 1)=some i:=⟨(bh j).1,(bh j).2,(bh k).1,(bh k).2,(bh l).1,(bh l).2⟩
def aiy (r N f:Nat) (F I:Nat->Prop) (M:Nat->List av) (s:bO) (x:dc) (c:Nat) (a d i:Int) (g:Bool) (w:World) (e:Ending) (h:World):Prop:=
 (∃m,(iM (cn (s.ops c)) (a,d)=.error m\/(m=7/\∃o,bl (cn (s.ops c)) (a,d)=some o/\o.list=true/\jL (dw o) i=none)\/(m=8/\(∃o b,bl (cn (s.ops c)) (a,d)=some o/\o.list=true/\jL (dw o) i=some b)/\¬s.has c c+3<=60))/\e=.returned (.tuple #[.agg #[A 0,A 0],A m])/\qx r N f F I w h x.ei M s)\/
 (∃o b t v,bl (cn (s.ops c)) (a,d)=some o/\o.list=true/\jL (dw o) i=some b/\s.has c c+3<=60/\e=.returned (.tuple #[.agg #[A (s.gt c+1),A c],A 0])/\
  Q1 r N f F I w h x.ei (nA M s c (.inl g) t v) (fg s c (.inl g) t v) c (.inr (.inl ((a,d),b))) (a,d) ⟨#[]⟩ (s.gt c+2,(c:Int)) (0,(s.gt c+1,(c:Int))))
theorem aiz{w r F I N sp M s x}(h:dJ w r F I N sp M s x){c:Nat}(l:c<N)(d f i:Int)(j:Bool):
  O 99 #[Z r,A c,.agg #[A d,A f],A i,.bool j] w fun e w'=>aiy r N sp F I M s x c d f i j w e w':=by
 have aK:=aa (((aoQ w.heap.size w).alloc (aoP _) (.cells #[A d,A f] 36)).alloc (by simp) (.cells #[A 0,A 0] 36));have cU:=aa (show((w.alloc (.cells #[A d,A f] 36)).alloc (.cells #[A 0,A 0] 36)).heap[w.heap.size]?=some (.cells #[A d,A f] 36 (0,0)) from(hV _ _ (by simp)).trans (bL w _));have l5:=aa (show((w.alloc (.cells #[A d,A f] 36)).alloc (.cells #[A 0,A 0] 36)).heap[w.heap.size+1]?=some (.cells #[A 0,A 0] 36 (0,0)) from(by
  have :=bL (w.alloc (.cells #[A d,A f] 36)) (.cells #[A 0,A 0] 36);rw[show(w.alloc (.cells #[A d,A f] 36)).heap.size=w.heap.size+1 by simp]at this;exact this))
 have bR:=aa (YI (h.af aK.o) c l d f i);have fB:=aa (show ∀k,w.heap.size<=k->¬F k from fun k hk hF=>by have :=h.m.lt k hF;omega);have bG:=aa (fun W (z:J w W)=>HN ((h.af z).m.eM c l) 3 (by omega));have ot:=aa (fun W (z:J w W)=>Yq ((h.af z).m.eM c l) (h.ui l) j);have oQ:=aa (fun W (z:J w W) (w':World) (B:s.has c c<60) hw=>(h.af z).step (w':=w') l B (chg:=.inl j) trivial hw);have aC:=aa h;clear h;go_enter func99,ntmps99;go_wp2_with fail
 refine bR.o.mono ?_;rintro e w1 ⟨aq,dT⟩;have bS:=aa (bj cU.o aq);have dM:=aa (bj l5.o aq);have L:=aa (aK.o.trans (aq.mono aK.o.size));clear aq;have hz1:=L.o.size;have uL:=aM dM.o;have vR:=aa (show ∀W,J w W->∀a b,qx r N sp F I w ((W.setCell (H (w.heap.size+1)) a).setCell (K (w.heap.size+1) 1) b) x.ei M s from fun W z a b=>aC.o.left ((z.setCell (show w.heap.size<=w.heap.size+1 by omega) _).setCell (show w.heap.size<=w.heap.size+1 by omega) _));rcases dT with⟨m,hm,P,rfl⟩|⟨o,ae,bo,dL,⟨hi,rfl⟩|⟨b,hi,rfl⟩⟩
 ·have cG:=aa P;clear P
  obtain⟨Q,R⟩:=bh dM.o;have mI:=cS dM.o;rcases hm with rfl|rfl
  ·go_wp2
   refine bodyPost_ret (v:=.tuple #[.agg #[A 0,A 0],A 3]) (by simp[results,results99,go_sem,Q,R]) rfl ?_;exact(show _\/_ from .inl ⟨3,.inl cG.o,rfl,vR.o _ L.o _ _⟩)
  ·go_wp2
   refine bodyPost_ret (v:=.tuple #[.agg #[A 0,A 0],A 4]) (by simp[results,results99,go_sem,Q,R]) rfl ?_;exact(show _\/_ from .inl ⟨4,.inl cG.o,rfl,vR.o _ L.o _ _⟩)
 ·have cG:=aa (And.intro ae (And.intro bo hi));clear ae bo dL hi
  obtain⟨Q,R⟩:=bh dM.o;have mI:=cS dM.o;go_wp2;refine bodyPost_ret (v:=.tuple #[.agg #[A 0,A 0],A 7]) (by simp[results,results99,go_sem,Q,R]) rfl ?_;exact(show _\/_ from .inl ⟨7,.inr (.inl ⟨rfl,o,cG.o⟩),rfl,vR.o _ L.o _ _⟩)
 ·have C:=aa (And.intro ae (And.intro bo hi));clear ae bo hi dL
  go_wp2_with fail
  refine(bG.o _ L.o).mono ?_;rintro e w2 ⟨rfl,aU⟩;have cz:=aa (bj bS.o aU);have jz:=aa (bj dM.o aU);have bf:=aa (L.o.trans (aU.mono L.o.size));clear aU;have qa:=aM jz.o;obtain⟨Q,R⟩:=bh jz.o;have mI:=cS jz.o;by_cases B:s.has c c+3<=60
  ·have ai:decide (s.has c c+((3:Nat):Int)<=60)=true:=decide_eq_true B
   rw[ai];have S:=aa B;clear Q R mI B ai;go_wp2_with fail
   refine(ot.o w2 bf.o).mono ?_;rintro e y ⟨rfl,fM⟩;obtain⟨t,v,jh,l3,j4,ak⟩:=oQ.o w2 bf.o y (by have :=S.o;omega) fM;have n:=aa ak;clear fM ak;have ez:=aa ((n.o.2.2.1.other _ (aM cz.o) (fB.o _ (aoP _))).trans cz.o);have pQ:=aa ((n.o.2.2.1.other _ (aM jz.o) (fB.o _ (by omega))).trans jz.o);have U:=aa ((aoQ y.heap.size y).alloc (aoP _) (.cells #[A (s.gt c+1),A c] 36));have oi:=aa (bL y (.cells #[A (s.gt c+1),A c] 36));have zs:(fg s c (.inl j) t v).has c c=s.has c c+1:=by
    show upd s.has c (upd (s.has c) c (s.has c c+1)) c c=_;rw[bN,bN]
   have dd:(fg s c (.inl j) t v).gt c=s.gt c+1:=by
    show upd s.gt c (s.gt c+1) c=_;rw[bN]
   have mw:bl (cn ((fg s c (.inl j) t v).ops c)) (d,f)=some o:=by
    have aj:(fg s c (.inl j) t v).ops c=s.ops c++[ke c (s.gt c) (s.has c) (.inl j) t v]:=by unfold fg l4;simp only[bN]
    rw[aj];unfold cn;rw[ao8,apX];show bl (b0 (cn (s.ops c)) (eU (ke c (s.gt c) (s.has c) (.inl j) t v).op)) (d,f)=some o;rw[wh rfl,C.o.1]
   have Za:=aa ((Yv ((n.o.1.af U.o).m.eM c l) (n.o.1.ui l) (n.o.1.kH l) mw C.o.2.1 (n.o.1.gY l mw C.o.2.1) i C.o.2.2).mono fun e w' ay=>show e=.returned (.agg #[A (s.gt c+1+1),A c])/\_ from⟨ay.1.trans (by rw[dd]),ay.2⟩);rw[n.o.2.1]at Za;have Mh:=aa (bj ez.o U.o);obtain⟨eO,fL⟩:=bh Mh.o;have It:=aM Mh.o;have pX:=aa (And.intro zs dd);clear mw zs dd;have pq:=World.new_ne y (V w 0) (bh ez.o).1;go_wp2_with fail
   refine Za.o.mono ?_;rintro e E ⟨rfl,gA⟩;rw[<-n.o.2.1]at gA;obtain⟨t1,v1,iZ,nU,Ma,aL⟩:=(n.o.1.af U.o).step (w':=E) l (by rw[pX.o.1];have :=S.o;omega) (chg:=.inr (.inl ((d,f),b))) trivial gA;rw[n.o.2.1]at aL;have p:=aa aL;have aiA:=aa (n.o.trans U.o p.o);clear gA aL eO fL It pq;have zi:=p.o.2.2.1.size;have mM:=n.o.2.2.1.size;have Hg:=U.o.size;have yl:∀k,w.heap.size<=k->k<w2.heap.size->¬jh k:=fun k h1 X hF=>by
    rcases n.o.2.2.1.sub _ hF with h|h
    ·exact fB.o _ h1 h
    ·omega
   have vO:¬jh y.heap.size:=fun hF=>by have :=n.o.1.m.lt _ hF;omega
   have gn:=aa ((p.o.2.2.1.other _ (aM Mh.o) (yl _ (aoP _) (aM cz.o))).trans Mh.o);have ns:=aa ((p.o.2.2.1.other _ (aM (bj pQ.o U.o)) (yl _ (by omega) qa)).trans (bj pQ.o U.o));have zb:=aa ((p.o.2.2.1.other _ (aM oi.o) vO).trans oi.o);have gD:=aa ((aoQ E.heap.size E).alloc (aoP _) (.cells #[A (s.gt c+1+1),A c] 36));have uj:=aa (bL E (.cells #[A (s.gt c+1+1),A c] 36));have x9:=aa (bj gn.o gD.o);have xF:=aa (bj zb.o gD.o);have tY:=aa (bj ns.o gD.o);have Mi:(fg (fg s c (.inl j) t v) c (.inr (.inl ((d,f),b))) t1 v1).has c c=s.has c c+2:=by
    show upd _ c (upd _ c (_+1)) c c=_;rw[bN,bN,pX.o.1];omega
   have Zb:∀u,Ik (nA (nA M s c (.inl j) t v) (fg s c (.inl j) t v) c (.inr (.inl ((d,f),b))) t1 v1 c) (.inr (.inr (.inl ((d,f),⟨#[]⟩,(s.gt c+2,(c:Int)),(0,(s.gt c+1,(c:Int))),u)))):=fun u=>⟨fun br=>absurd rfl br,.inr ⟨ke c (s.gt c) (s.has c) (.inl j) t v,by rw[nA,nz,nA,nz];simp,rfl,j,rfl⟩⟩
   have BD:=aa (fun W (z:J E W)=>(L0 ((p.o.1.af z).m.eM c l) (p.o.1.ui l) (d,f) (s.gt c+2,(c:Int)) ⟨#[]⟩ (0,(s.gt c+1,(c:Int)))).mono fun e w' ay=>show(∃iu,e=.returned iu)/\∃u t2 v2 rY BH xz,u.Perm ((eY (Ma.q c).D.1 (Ma.q c).D.2 (d,f) ⟨#[]⟩ (s.gt c+2,(c:Int))).aB.map (·.1))/\mR u/\Stepped r N sp iZ nU W w' x.ei (nA (nA (nA M s c (.inl j) t v) (fg s c (.inl j) t v) c (.inr (.inl ((d,f),b))) t1 v1) (fg (fg s c (.inl j) t v) c (.inr (.inl ((d,f),b))) t1 v1) c (.inr (.inr (.inl ((d,f),⟨#[]⟩,(s.gt c+2,(c:Int)),(0,(s.gt c+1,(c:Int))),u)))) t2 v2) (fg (fg (fg s c (.inl j) t v) c (.inr (.inl ((d,f),b))) t1 v1) c (.inr (.inr (.inl ((d,f),⟨#[]⟩,(s.gt c+2,(c:Int)),(0,(s.gt c+1,(c:Int))),u)))) t2 v2) rY BH xz from by
    obtain⟨he,u,P,au,hw⟩:=ay;obtain⟨t2,v2,rY,BH,xz,fF⟩:=(p.o.1.af z).step (w':=w') l (by rw[Mi];have :=S.o;omega) (Zb u) hw;rw[p.o.2.1]at fF;exact⟨he,u,t2,v2,rY,BH,xz,P,au,fF⟩)
   rw[p.o.2.1]at BD;clear Zb;have lN:∀k,w.heap.size<=k->(k<w2.heap.size\/k=y.heap.size\/E.heap.size<=k)->¬iZ k:=fun k h1 X hF=>by
    have aE:=p.o.1.m.lt k hF;rcases p.o.2.2.1.sub _ hF with h|h
    ·rcases X with X|X|X
     ·exact yl k h1 X h
     ·rw[X]at h;exact vO h
     ·omega
    ·have cY:(y.alloc (.cells #[A (s.gt c+1),A c] 36)).heap.size=y.heap.size+1:=by simp
     omega
   have rr:=aa lN;clear lN;obtain⟨jS,q1⟩:=bh x9.o;obtain⟨kz,xk⟩:=bh xF.o;obtain⟨GR,xv⟩:=bh uj.o;have rI:=aM x9.o;have gF:=aM xF.o;have xM:=aM uj.o;rw[show s.gt c+1+1=s.gt c+2 by omega]at uj gD x9 xF tY jS q1 kz xk GR xv rI gF xM⊢;clear yl vO jS q1 kz xk GR xv;have Zc:=aa (And.intro Mi pX.o.2);clear Mi;go_wp2_with fail
   go_region_held3 (fun W=>W.cell? (V w 0)=some (A d)/\W.cell? (V w 1)=some (A f)/\W.cell? (V y 0)=some (A (s.gt c+1))/\W.cell? (V y 1)=some (A c)/\W.cell? (V E 0)=some (A (s.gt c+2))/\W.cell? (V E 1)=some (A c)) (first |exact Rc HX7.o Re.o HE7.o|exact Rc Bp.o Rf.o Rg.o|exact Rc x9.o xF.o uj.o)
    (first
     |(go_at_call 63;refine(L3 _ _ _ _ _).mono ?_;rintro e w6 ⟨rfl,Zd⟩;have F3:=Hq.o (mq Zd);have Bp:=aa (bj x9.o F3);have Rf:=aa (bj xF.o F3);have Rg:=aa (bj uj.o F3);have qi:=aa (bj tY.o F3);have zn:=aa (gD.o.trans (F3.mono gD.o.size));clear Zd F3)
     |(go_at_call 62;refine(BD.o _ (by first |exact zn.o|exact zn.o.drew)).mono ?_;rintro e w7 ⟨⟨iu,rfl⟩,u,t2,v2,rY,BH,xz,P,au,fF⟩;have Y:=aa (And.intro P (And.intro au fF));clear P au fF;have HX7:=aa ((Y.o.2.2.2.2.1.other _ (aM Bp.o) (rr.o _ (aoP _) (.inl (aM cz.o)))).trans Bp.o);have Re:=aa ((Y.o.2.2.2.2.1.other _ (aM Rf.o) (rr.o _ (by omega) (.inr (.inl rfl)))).trans Rf.o);have HE7:=aa ((Y.o.2.2.2.2.1.other _ (aM Rg.o) (rr.o _ (by omega) (.inr (.inr (aoP _))))).trans Rg.o);have Rh:=aa ((Y.o.2.2.2.2.1.other _ (aM qi.o) (rr.o _ (by omega) (.inl qa))).trans qi.o)))
   all_goals(
    obtain⟨fz,eJ⟩:=bh Rh.o;obtain⟨kz,xk⟩:=bh Re.o;have kT:=cS Rh.o;have Ft:=aM Rh.o;have aoJ:=aM Re.o;have fP:=aa (fun a b=>Q2 aC.o bf.o aiA.o (by first |exact zn.o|exact zn.o.drew) Y.o.2.2 (g:=w.heap.size+1) (by omega) qa a b);go_wp2;refine bodyPost_ret (v:=.tuple #[.agg #[A (s.gt c+1),A c],A 0]) (by simp[results,results99,go_sem,fz,eJ]) rfl ?_;exact(show _\/_ from .inr ⟨o,b,t,v,C.o.1,C.o.2.1,C.o.2.2,S.o,rfl,by rw[pX.o.1];have :=S.o;omega,t1,v1,_,u,t2,v2,(p.o.1.doc l).1,(p.o.1.doc l).2.1,Y.o.1,Y.o.2.1,fP.o _ _⟩))
  ·have ai:decide (s.has c c+((3:Nat):Int)<=60)=false:=decide_eq_false B
   rw[ai];have S:=aa B;clear B ai;go_wp2;refine bodyPost_ret (v:=.tuple #[.agg #[A 0,A 0],A 8]) (by simp[results,results99,go_sem,Q,R]) rfl ?_;exact(show _\/_ from .inl ⟨8,.inr (.inr ⟨rfl,⟨o,b,C.o⟩,Int.not_le.2 S.o⟩),rfl,vR.o _ bf.o _ _⟩)
end
section
open Go.RowKit Tryz
variable {a d k l:Nat}{b:World}{e:Nat->List av}{f j:Nat->Prop}{h:bO}{i:dc}
theorem Ze:∀{l m:List PId},mR l->mR m->l.Perm m->l=m
 |[],m,_,_,c=>c.nil_eq
 |a::l,[],_,_,c=>absurd c.length_eq (by simp)
 |a::l,b::m,e,f,c=>by
  obtain⟨g,i⟩:=apP.1 e;obtain⟨j,k⟩:=apP.1 f;have n:a=b:=by
   rcases ao3.1 (c.mem_iff.1 (ao6 (a:=a) (l:=l))) with h|h
   ·exact h
   ·rcases ao3.1 (c.mem_iff.2 (ao6 (a:=b) (l:=m))) with d|d
    ·exact d.symm
    ·have :=A7 (g b d) (j a h)
     rw[uc]at this;cases this
  subst n;rw[Ze i k c.cons_inv]
theorem Zf(l:List cE):(l.map mQ).map (·.1)=l.map (·.cD):=by rw[apI];rfl
theorem Ri(a:List av)(y:av):cn (a++[y])=b0 (cn a) (eU y.op):=by
 unfold cn;rw[ao8,apX];rfl
theorem aiB(p:bu)(o:ba):(e9 p o).list=o.list:=by
 unfold e9;split
 ·split <;>rfl
 ·split <;>rfl
theorem F4(s:bO)(c:Nat)(a:kS)(t:TypeId)(v:Value):(fg s c a t v).ops c=s.ops c++[ke c (s.gt c) (s.has c) a t v]:=by unfold fg l4;simp only[bN]
theorem F5(s:bO)(c:Nat)(a:kS)(t:TypeId)(v:Value):(fg s c a t v).gt c=s.gt c+1:=by unfold fg l4;simp only[bN]
theorem aiC(s:bO)(c:Nat)(a:kS)(t:TypeId)(v:Value):(fg s c a t v).has c c=s.has c c+1:=by unfold fg l4;simp only[bN]
theorem Zg{h}{f:List av}{g:Int}(u:∀o∈f,o.op.id.1<=g)(L:0<=g){a:PId}{o:ba}(l:bl (cn f) a=some o)(m:o.list=true){c:Int}{b:PId}{y:av}(v:eU y.op=⟨(g+1,c),2,false,a,⟨#[]⟩,(0,0),b,0,(0,0),[]⟩)(j:eA (cn (f++[y])) h):(eY h.1 h.2 a ⟨#[]⟩ (g+1,c)).aB=[]:=by
 have w:o2 (cn f) (((f.map fun o=>eU o.op).map bu.id).reverse++[]):=o2.all (f.map fun(o:av)=>eU o.op) c2 [] o2.root;rw[Ri,v]at j;have n:bl (b0 (cn f) ⟨(g+1,c),2,false,a,⟨#[]⟩,(0,0),b,0,(0,0),[]⟩) a=some (e9 ⟨(g+1,c),2,false,a,⟨#[]⟩,(0,0),b,0,(0,0),[]⟩ o):=by
  rw[zj (show(2:Int)≠1 by decide),if_pos rfl,l];rfl
 have x:fD (e9 ⟨(g+1,c),2,false,a,⟨#[]⟩,(0,0),b,0,(0,0),[]⟩ o) ⟨#[]⟩ (g+1,c)=[]:=by
  unfold fD;cases q:(e9 ⟨(g+1,c),2,false,a,⟨#[]⟩,(0,0),b,0,(0,0),[]⟩ o).ss.find? (eG ⟨#[]⟩ (g+1,c)) with
  |none=>rfl
  |some s=>
   have d:=aqi q;have r:=(oS.1 (aqH q)).2;unfold e9 at d;rw[if_pos rfl,if_pos m]at d;rcases Ig d with d|rfl
   ·exfalso
    rcases w.slot a o l s d with i|i
    ·have B:g+1=0:=congrArg Prod.fst (r.symm.trans i)
     omega
    ·rw[r,apu,List.mem_reverse]at i
     obtain⟨p,C,e⟩:=aoX.1 i;obtain⟨z,D,rfl⟩:=aoX.1 C;rw[pO]at e;have k:=u z D;have B:z.op.id.1=g+1:=by rw[e]
     omega
   ·rfl
 by_cases t:(g+1,c)∈(e9 ⟨(g+1,c),2,false,a,⟨#[]⟩,(0,0),b,0,(0,0),[]⟩ o).ss.map bU.id
 ·have k:=(j.Fa n (by rw[aiB];exact m) t).2
  rw[x,apU]at k;exact List.Perm.eq_nil k
 ·have E:lA h.1 h.2 a ⟨#[]⟩ (g+1,c)=false:=by
   unfold lA;rw[if_pos rfl];cases F:bq (g+1,c) h.2 with
   |none=>rfl
   |some e=>
    show decide (e.list=a)=false;refine decide_eq_false fun I=>t ?_
    obtain⟨M,d,_,i⟩:=j.el _ e F;rw[I,n]at d;cases d;exact i
  unfold eY;rw[E];rfl
def nY (c:Nat):List bu->(Nat->List av)->bO->(Nat->List av)->bO->Prop
 |[],M,s,a,b=>a=M/\b=s
 |p::e,M,s,a,b=>∃d t v,eU (ke c (s.gt c) (s.has c) d t v).op=p/\nY c e (nA M s c d t v) (fg s c d t v) a b
theorem nY.one(M:Nat->List av)(s:bO)(c:Nat)(a:kS)(t:TypeId)(v:Value):nY c [eU (ke c (s.gt c) (s.has c) a t v).op] M s (nA M s c a t v) (fg s c a t v):=⟨a,t,v,rfl,rfl,rfl⟩
theorem nY.app{c:Nat}:∀{d e:List bu} {M f g:Nat->List av} {s i j:bO},nY c d M s f i->nY c e f i g j->nY c (d++e) M s g j
 |[],_,_,_,_,_,_,_,⟨a,b⟩,h=>by subst a b;exact h
 |_::_,_,_,_,_,_,_,_,⟨k,t,v,a,b⟩,h=>⟨k,t,v,a,nY.app b h⟩
def BI (r N a:Nat) (F I:Nat->Prop) (M:Nat->List av) (s:bO) (x:dc) (c:Nat) (b:Except Int (List bu)) (E:Int->Ending) (Y:Ending) (w:World) (e:Ending) (d:World):Prop:=
 (∃m,b=.error m/\e=E m/\qx r N a F I w d x.ei M s)\/(∃f g h,b=.ok f/\e=Y/\nY c f M s g h/\qx r N a F I w d x.ei g h)
theorem dJ.BG{w r F I N e M s x}(h:dJ w r F I N e M s x){c:Nat}(f:c<N){y:PId}{o:ba}(g:bl (cn (s.ops c)) y=some o){a:ByteArray}{z:PId}{d:List (PId×dR)}{b:List PId}(i:d.Perm ((fD o a z).map mQ))(j:b.Perm (d.map (·.1)))(k:mR b):b=(fD o a z).map (·.cD):=by
 refine Ze k ((o6.of (h.ok.kd c f)).BG g a z) ?_;rw[<-Zf];exact j.trans (i.map _)
theorem dJ.aiD(c:dJ b d f j k l e h i)(s:a<k)(w x n:Int)(p:ByteArray)(C:p.size<=maxLen):O 23 #[Z d,A a,.agg #[A w,A x],.string p,A n] b fun g B=>BI d k l f j e h i a (tS (cn (h.ops a)) (h.gt a) (e a).length a (w,x) p n) (fun m=>.returned (A m)) (.returned (A 0)) b g B:=by
 have M:=c.ok.own a s;refine(ahX c s w x n p C).mono ?_;rintro g B (⟨m,y,rfl,z⟩|⟨o,N,q,u,r,D,E,rfl,F,t,v,z⟩)
 ·refine .inl ⟨m,?_,rfl,z⟩
  unfold tS;rcases y with y|⟨rfl,⟨o,q,u,r⟩,F⟩
  ·rw[y]
  ·rw[zK q u,r]
   show(if(e a).length<60 then _ else _)=_;rw[if_neg (by omega)]
 ·have I:p≠⟨#[]⟩:=fun g=>by rw[g]at r;exact absurd r (by decide)
  have L:=c.BG s q ((c.kH s).zl q u I (0,0)).2 D E;refine .inr ⟨_,_,_,?_,rfl,nY.one e h a _ t v,z⟩;unfold tS;rw[zK q u,r];show(if(e a).length<60 then _ else _)=_;rw[if_pos (by omega),<-L];rfl
theorem dJ.aiE(g:dJ b d f j k l e h i)(u:a<k)(y z:Int)(p:ByteArray)(F:p.size<=maxLen):O 78 #[Z d,A a,.agg #[A y,A z],.string p] b fun c E=>BI d k l f j e h i a (sQ (cn (h.ops a)) (h.gt a) (e a).length a (y,z) p) (fun m=>.returned (A m)) (.returned (A 0)) b c E:=by
 have Q:=g.ok.own a u;refine(ah2 g u y z p F).mono ?_;rintro c E (⟨m,B,rfl,C⟩|⟨o,R,q,r,n,I,L,rfl,M,N,t,v,C⟩)
 ·refine .inl ⟨m,?_,rfl,C⟩
  unfold sQ;rcases B with B|⟨rfl,⟨o,q,r,n⟩,D⟩|⟨rfl,⟨⟨o,q,r,n⟩,D⟩,N⟩
  ·rw[B]
  ·have w:p≠⟨#[]⟩:=fun c=>by rw[c]at n;exact absurd n (by decide)
   have s:=((g.kH u).zl q r w (0,0)).2;rw[D]at s;rw[zK q r,n];show(if(fD o p (0,0)).length=0 then _ else _)=_;rw[if_pos (by have :=s.length_eq;simpa using this.symm)]
  ·have w:p≠⟨#[]⟩:=fun c=>by rw[c]at n;exact absurd n (by decide)
   have s:=((g.kH u).zl q r w (0,0)).2;rw[zK q r,n];show(if(fD o p (0,0)).length=0 then _ else if(e a).length<60 then _ else _)=_;rw[if_neg (fun c=>D (by have x:=s.length_eq;rw[aoU,c]at x;exact aqg x)),if_neg (by omega)]
 ·have w:p≠⟨#[]⟩:=fun c=>by rw[c]at n;exact absurd n (by decide)
  have s:=((g.kH u).zl q r w (0,0)).2;have P:=g.BG u q s I L;refine .inr ⟨_,_,_,?_,rfl,nY.one e h a _ t v,C⟩;unfold sQ;rw[zK q r,n];show(if(fD o p (0,0)).length=0 then _ else if(e a).length<60 then _ else _)=_;rw[if_neg (fun c=>M (by have x:=s.length_eq;rw[aoU,c]at x;exact aqg x)),if_pos (by omega),<-P];rfl
theorem dJ.aiF(g:dJ b d f j k l e h i)(z:a<k)(u w c n:Int):O 33 #[Z d,A a,.agg #[A u,A w],A c,A n] b fun p E=>BI d k l f j e h i a (kE (cn (h.ops a)) (h.gt a) (e a).length a (u,w) c 3 n) (fun m=>.returned (A m)) (.returned (A 0)) b p E:=by
 have W:=g.ok.own a z;refine(ahY g z u w c n).mono ?_;rintro p E (⟨m,B,rfl,C⟩|⟨o,y,X,r,s,I,F,L,M,rfl,N,t,v,C⟩)
 ·refine .inl ⟨m,?_,rfl,C⟩
  unfold kE;rcases B with B|⟨rfl,o,r,s,D⟩|⟨⟨rfl,N⟩,o,r,s,D⟩
  ·rw[B]
  ·rw[ri r s]
   show(if c<0\/((dw o).length:Int)<=c then _ else _)=_;rw[if_pos D]
  ·rw[ri r s]
   show(if c<0\/((dw o).length:Int)<=c then _ else if(e a).length<60 then _ else _)=_;rw[if_neg D,if_neg (by omega)]
 ·have P:=g.BG z r ((g.kH z).Fa r s (V2 (aq0 F))).2 L M
  refine .inr ⟨_,_,_,?_,rfl,nY.one e h a _ t v,C⟩;unfold kE;rw[ri r s];show(if c<0\/((dw o).length:Int)<=c then _ else if(e a).length<60 then _ else _)=_;have Q:(dw o).getD c.toNat (0,0)=y:=by simp[List.getD,F]
  have R:CY (cn (h.ops a)) (u,w) y=(fD o ⟨#[]⟩ y).map (·.cD):=by
   unfold CY;rcases Hv (cn (h.ops a)) (u,w) true with⟨x,_⟩|⟨Y,q,x,S,U⟩
   ·rw[r]at x;cases x
   ·rw[r]at x
    cases x;rw[U,if_pos s];simp only[S]
  rw[if_neg I,if_pos (by omega),Q,R,<-P];rfl
theorem dJ.aiG(g:dJ b d f j k l e h i)(x:a<k)(s u c:Int):O 34 #[Z d,A a,.agg #[A s,A u],A c] b fun n D=>BI d k l f j e h i a (kE (cn (h.ops a)) (h.gt a) (e a).length a (s,u) c 4 0) (fun m=>.returned (A m)) (.returned (A 0)) b n D:=by
 have U:=g.ok.own a x;refine(ahZ g x s u c).mono ?_;rintro n D (⟨m,z,rfl,B⟩|⟨o,y,W,q,r,F,E,I,L,rfl,M,t,v,B⟩)
 ·refine .inl ⟨m,?_,rfl,B⟩
  unfold kE;rcases z with z|⟨rfl,o,q,r,C⟩|⟨rfl,⟨o,q,r,C⟩,M⟩
  ·rw[z]
  ·rw[ri q r]
   show(if c<0\/((dw o).length:Int)<=c then _ else _)=_;rw[if_pos C]
  ·rw[ri q r]
   show(if c<0\/((dw o).length:Int)<=c then _ else if(e a).length<60 then _ else _)=_;rw[if_neg C,if_neg (by omega)]
 ·have N:=g.BG x q ((g.kH x).Fa q r (V2 (aq0 E))).2 I L
  refine .inr ⟨_,_,_,?_,rfl,nY.one e h a _ t v,B⟩;unfold kE;rw[ri q r];show(if c<0\/((dw o).length:Int)<=c then _ else if(e a).length<60 then _ else _)=_;have P:(dw o).getD c.toNat (0,0)=y:=by simp[List.getD,E]
  have Q:CY (cn (h.ops a)) (s,u) y=(fD o ⟨#[]⟩ y).map (·.cD):=by
   unfold CY;rcases Hv (cn (h.ops a)) (s,u) true with⟨w,_⟩|⟨X,p,w,R,S⟩
   ·rw[q]at w;cases w
   ·rw[q]at w
    cases w;rw[S,if_pos r];simp only[R]
  rw[if_neg F,if_pos (by omega),P,Q,<-N];rfl
theorem dJ.aiH(g:dJ b d f j k l e h i)(x:a<k)(q r:Int)(p:ByteArray)(D:p.size<=maxLen)(n:Bool):O 38 #[Z d,A a,.agg #[A q,A r],.string p,.bool n] b fun c C=>BI d k l f j e h i a (tT (cn (h.ops a)) (h.gt a) (e a).length a (q,r) p n) (fun m=>.returned (.tuple #[.agg #[A 0,A 0],A m])) (.returned (.tuple #[.agg #[A (h.gt a+1),A a],A 0])) b c C:=by
 have U:=g.ok.own a x;refine(ah5 g x q r p D n).mono ?_;rintro c C (⟨m,y,rfl,z⟩|⟨o,s,w,u,rfl,E,t,v,W,B,F,I,L,_,M,N,z⟩)
 ·refine .inl ⟨m,?_,rfl,z⟩
  unfold tT;rcases y with y|⟨rfl,⟨o,s,w,u⟩,E⟩
  ·rw[y]
  ·rw[zK s w,u]
   show(if(e a).length<59 then _ else _)=_;rw[if_neg (by omega)]
 ·have P:p≠⟨#[]⟩:=fun c=>by rw[c]at u;exact absurd u (by decide)
  have Q:bl (cn ((fg h a (.inl n) t v).ops a)) (q,r)=some o:=by
   rw[F4,Ri,wh rfl,s]
  have R:=g.BG x s (L.zl Q w P (0,0)).2 M N;have S:=(nY.one e h a (.inl n) t v).app (nY.one (nA e h a (.inl n) t v) (fg h a (.inl n) t v) a (.inr (.inr (.inl ((q,r),p,(0,0),(0,(h.gt a+1,(a:Int))),B)))) F I);refine .inr ⟨_,_,_,?_,rfl,S,z⟩;unfold tT;rw[zK s w,u];show(if(e a).length<59 then _ else _)=_;rw[if_pos (by omega),<-R];show Except.ok [qe (h.gt a+1) a n,xN 3 (h.gt a+2) a (q,r) p 0 (h.gt a+1,(a:Int)) B]=Except.ok [qe (h.gt a+1) a n,xN 3 ((fg h a (.inl n) t v).gt a+1) a (q,r) p 0 (h.gt a+1,(a:Int)) B];rw[F5,E5]
theorem dJ.aiI{w}(l:dJ w a f j d k e h i){c:Nat}(x:c<d)(q r g n:Int):O 32 #[Z a,A c,.agg #[A q,A r],A g,A n] w fun p C=>BI a d k f j e h i c (sR (cn (h.ops c)) (h.gt c) (e c).length c (q,r) g n) (fun m=>.returned (.tuple #[.agg #[A 0,A 0],A m])) (.returned (.tuple #[.agg #[A (h.gt c+1),A c],A 0])) w p C:=by
 have Q:=l.ok.own c x;refine(ah7 l x q r g n).mono ?_;rintro p C (⟨m,y,rfl,z⟩|⟨o,b,s,u,F,rfl,I,t,v,R,S,L,M,D,_,E,U,z⟩)
 ·refine .inl ⟨m,?_,rfl,z⟩
  unfold sR;rcases y with y|⟨rfl,o,s,u,B⟩|⟨rfl,⟨o,b,s,u,B⟩,I⟩
  ·rw[y]
  ·rw[ri s u]
   show(match jL (dw o) g with |none=>_|some b=>_)=_;rw[B]
  ·rw[ri s u]
   show(match jL (dw o) g with |none=>_|some b=>if(e c).length<59 then _ else _)=_;rw[B];show(if(e c).length<59 then _ else _)=_;rw[if_neg (by omega)]
 ·rw[F4]at D
  have N:=Zg (l.ok.copy c x).yg (l.ok.wB c x).1 s u (c:=(c:Int)) (b:=b) rfl D;rw[N,apU]at E;obtain rfl:=List.Perm.eq_nil E;have P:=(nY.one e h c (.inr (.inl ((q,r),b))) t v).app (nY.one (nA e h c (.inr (.inl ((q,r),b))) t v) (fg h c (.inr (.inl ((q,r),b))) t v) c (.inr (.inr (.inl ((q,r),⟨#[]⟩,(h.gt c+1,(c:Int)),(n,(0,0)),[])))) L M);refine .inr ⟨_,_,_,?_,rfl,P,z⟩;unfold sR;rw[ri s u];show(match jL (dw o) g with |none=>_|some b=>if(e c).length<59 then _ else _)=_;rw[F];show(if(e c).length<59 then _ else _)=_;rw[if_pos (by omega)];show Except.ok [tR (h.gt c+1) c (q,r) b,sP 3 (h.gt c+2) c (q,r) (h.gt c+1,(c:Int)) n (0,0) []]=Except.ok [tR (h.gt c+1) c (q,r) b,sP 3 ((fg h c (.inr (.inl ((q,r),b))) t v).gt c+1) c (q,r) (h.gt c+1,(c:Int)) n (0,0) []];rw[F5,E5]
theorem dJ.aiJ{w}(l:dJ w a f j d k e h i){c:Nat}(C:c<d)(q r g:Int)(p:Bool):O 99 #[Z a,A c,.agg #[A q,A r],A g,.bool p] w fun n I=>BI a d k f j e h i c (sS (cn (h.ops c)) (h.gt c) (e c).length c (q,r) g p) (fun m=>.returned (.tuple #[.agg #[A 0,A 0],A m])) (.returned (.tuple #[.agg #[A (h.gt c+1),A c],A 0])) w n I:=by
 have Y:=l.ok.own c C;refine(aiz l C q r g p).mono ?_;rintro n I (⟨m,D,rfl,E⟩|⟨o,b,s,u,x,z,P,vf,rfl,Q,t,v,iP,ss,R,S,L,_,M,au,E⟩)
 ·refine .inl ⟨m,?_,rfl,E⟩
  unfold sS;rcases D with D|⟨rfl,o,x,z,F⟩|⟨rfl,⟨o,b,x,z,F⟩,Q⟩
  ·rw[D]
  ·rw[ri x z]
   show(match jL (dw o) g with |none=>_|some b=>_)=_;rw[F]
  ·rw[ri x z]
   show(match jL (dw o) g with |none=>_|some b=>if(e c).length<58 then _ else _)=_;rw[F];show(if(e c).length<58 then _ else _)=_;rw[if_neg (by omega)]
 ·have U:bl (cn ((fg h c (.inl p) s u).ops c)) (q,r)=some o:=by
   rw[F4,Ri,wh rfl,x]
  have hg0:=(l.ok.wB c C).1;have W:∀y∈(fg h c (.inl p) s u).ops c,y.op.id.1<=h.gt c+1:=fun y B=>by
   rw[F4]at B;rcases aoZ.1 B with B|B
   ·have :=(l.ok.copy c C).yg y B
    omega
   ·obtain rfl:=ao2.1 B
    exact apY _
  rw[F4 (fg h c (.inl p) s u)]at L;have N:=Zg W (by omega) U z (c:=(c:Int)) (b:=b) (y:=ke c ((fg h c (.inl p) s u).gt c) ((fg h c (.inl p) s u).has c) (.inr (.inl ((q,r),b))) t v) (by rw[F5];rfl) L;rw[show h.gt c+1+1=h.gt c+2 by omega]at N;rw[N,apU]at M;obtain rfl:=List.Perm.eq_nil M;have X:=(nY.one e h c (.inl p) s u).app ((nY.one (nA e h c (.inl p) s u) (fg h c (.inl p) s u) c (.inr (.inl ((q,r),b))) t v).app (nY.one (nA (nA e h c (.inl p) s u) (fg h c (.inl p) s u) c (.inr (.inl ((q,r),b))) t v) (fg (fg h c (.inl p) s u) c (.inr (.inl ((q,r),b))) t v) c (.inr (.inr (.inl ((q,r),⟨#[]⟩,(h.gt c+2,(c:Int)),(0,(h.gt c+1,(c:Int))),[])))) R S));refine .inr ⟨_,_,_,?_,rfl,X,E⟩;unfold sS;rw[ri x z];show(match jL (dw o) g with |none=>_|some b=>if(e c).length<58 then _ else _)=_;rw[P];show(if(e c).length<58 then _ else _)=_;rw[if_pos (by omega)];show Except.ok [qe (h.gt c+1) c p,tR (h.gt c+2) c (q,r) b,sP 3 (h.gt c+3) c (q,r) (h.gt c+2,(c:Int)) 0 (h.gt c+1,(c:Int)) []]=Except.ok [qe (h.gt c+1) c p,tR ((fg h c (.inl p) s u).gt c+1) c (q,r) b,sP 3 ((fg (fg h c (.inl p) s u) c (.inr (.inl ((q,r),b))) t v).gt c+1) c (q,r) (h.gt c+2,(c:Int)) 0 (h.gt c+1,(c:Int)) []];rw[F5 (fg h c (.inl p) s u),F5,E5,show h.gt c+2+1=h.gt c+3 by omega]
structure jN where
 q:Bool
 heard:List Nat
 refs:List (Nat×Nat)
structure gq where
 p:jN
 mz:Value
 cb:Value
def iv (m:gq):List Value:=[.bool m.p.q,m.mz,m.cb]
def um (x:Nat×Nat):List Value:=[A x.1,A x.2]
def o7 (n:Nat):List Value:=[A n]
def kJ (B:Nat) (w:World) (v:Value) (l:List Nat):Prop:=w.ownsRow B 3 1 v l.length (l.flatMap o7)
def jA (B:Nat) (w:World) (v:Value) (l:List (Nat×Nat)):Prop:=w.ownsRow B 258 2 v l.length (l.flatMap um)
def rj (w:World) (m:gq):Prop:=kJ 0 w m.mz m.p.heard/\jA 0 w m.cb m.p.refs
theorem rj.af{w m}{w':World}(h:rj w m)(a:J w w'):rj w' m:=⟨c5 h.1 a,c5 h.2 a⟩
def Rj (N:Nat) (a b:Int):Prop:=(0<=a/\a<N)/\(0<=b/\b<N)/\a≠b
theorem Rk{q r s t u v w}(h:e2 b d a q r s t u v w)(c f:Int)(k:¬Rj a c f):
  O 155 #[Z d,A c,A f] b fun e x=>e=.returned (.tuple #[.pointer none,A 9])/\x=b:=by
 have j:=aa (xo h c);have l:=aa (xo h f);clear h;unfold Rj at k;by_cases i:0<=c/\c<a
 ·by_cases n:0<=f/\f<a
  ·obtain rfl:c=f:=by
    by_cases e:c=f
    ·exact e
    ·exact absurd ⟨i,n,e⟩ k
   have g:decide (0<=c/\c<(a:Int))=true:=by simpa using i
   rw[g]at j l;clear k i n g;go_enter func155,ntmps155;go_wp2_with fail
   refine j.o.mono ?_;rintro e m ⟨rfl,rfl⟩;go_wp2_with fail
   refine l.o.mono ?_;rintro e m ⟨rfl,rfl⟩;go_wp2;go_ret2
   exact⟨rfl,rfl⟩
  ·have g:decide (0<=c/\c<(a:Int))=true:=by simpa using i
   have p:decide (0<=f/\f<(a:Int))=false:=by simpa using n
   rw[g]at j;rw[p]at l;clear k i n g p;go_enter func155,ntmps155;go_wp2_with fail
   refine j.o.mono ?_;rintro e m ⟨rfl,rfl⟩;go_wp2_with fail
   refine l.o.mono ?_;rintro e m ⟨rfl,rfl⟩;go_wp2;go_ret2
   exact⟨rfl,rfl⟩
 ·have g:decide (0<=c/\c<(a:Int))=false:=by simpa using i
  rw[g]at j;clear k i g;go_enter func155,ntmps155;go_wp2_with fail
  refine j.o.mono ?_;rintro e m ⟨rfl,rfl⟩;go_wp2_with fail
  refine l.o.mono ?_;rintro e m ⟨rfl,rfl⟩;go_wp2;go_ret2
  exact⟨rfl,rfl⟩
end
section
open Go.RowKit Tryz
attribute [local go_sem ↓] Go.wp_at_zero Go.wp_at_succ
variable {a d:Nat}{b:World}
theorem Iz{o:Obj}(h:a=b.heap.size):(b.alloc o).heap[a]?=some o:=by rw[h];exact bL b o
structure jO (w:World) (r N:Nat):Prop where
 blk:∃c8 eX jT,w.heap[r]?=some (.cells #[.slice (some (H c8)) N eX,.map (some jT)] 119 (0,0))/\N<=eX/\eX<=maxLen
 hN:N<=4
theorem jO.af{w r}{w':World}(h:jO w r a)(b:J w w'):jO w' r a:=by
 obtain⟨c,d,e,f,g⟩:=h.blk;exact⟨⟨c,d,e,bj f b,g⟩,h.hN⟩
theorem gb.jO{w r F I N b s x}(h:gb w r F I N b s x):Go.Proofs.YtnkpogjiiohapaaGreatDoor.jO w r N:=by
 have g:=h.cap;obtain⟨a,i,e,c,d,_⟩:=bp h.row;injection e with _ _ f;subst f;exact⟨⟨_,_,_,h.blk,c,d⟩,h.hN⟩
theorem Rl(h:jO b d a)(c:Int)(f:¬(0<=c/\c<a)):
  O 44 #[Z d,A c] b fun e i=>e=.returned (.tuple #[.pointer none,A 2])/\i=b:=by
 obtain⟨k,l,m,g,n,j⟩:=h.blk;have o:=(bh g).1;have p:=h.hN;unfold maxLen at j;clear h g;by_cases q:c<0
 ·clear f
  go_enter func44,ntmps44;go_wp2;go_ret2
  exact⟨rfl,rfl⟩
 ·have r:(a:Int)<=c:=by omega
  clear f;go_enter func44,ntmps44;go_wp2;go_ret2
  exact⟨rfl,rfl⟩
theorem Mj(h:jO b a d)(c:Int)(f:¬(0<=c/\c<d))(g i:Int)(k:Bool):
  O 56 #[Z a,A c,.agg #[A g,A i],.bool k] b fun e l=>J b l/\e=.returned (.tuple #[.pointer none,A 2]):=by
 have j:=aa ((aoQ b.heap.size b).alloc (aoP _) (.cells #[A g,A i] 36));have m:=aa (Rl (h.af j.o) c f);clear h f;go_enter func56,ntmps56;go_wp2_with fail
 refine m.o.mono ?_;rintro e p ⟨rfl,n⟩;subst n;go_wp2;go_ret2
 exact⟨j.o,rfl⟩
theorem Mk(h:jO b a d)(c:Int)(l:¬(0<=c/\c<d))(f g:Int)(m:ByteArray):
  O 46 #[Z a,A c,.agg #[A f,A g],.string m] b fun e n=>J b n/\e=.returned (.tuple #[.pointer none,.agg #[A 0,A 0,.string ⟨#[]⟩,A 0,A 0],A 2]):=by
 have i:=aa (((aoQ b.heap.size b).alloc (aoP _) (.cells #[A f,A g] 36)).alloc (by simp) (.cells #[A 0,A 0,.string ⟨#[]⟩,A 0,A 0] 97));have p:=aa (show((b.alloc (.cells #[A f,A g] 36)).alloc (.cells #[A 0,A 0,.string ⟨#[]⟩,A 0,A 0] 97)).heap[b.heap.size+1]?=some (.cells #[A 0,A 0,.string ⟨#[]⟩,A 0,A 0] 97 (0,0)) from Iz (by simp));have q:=aa (Mj (h.af i.o) c l f g false);clear h l;go_enter func46,ntmps46;go_wp2_with fail
 refine q.o.mono ?_;rintro e y ⟨j,rfl⟩;have k:=aa (bj p.o j);have r:=aa (i.o.trans (j.mono i.o.size));clear j;obtain⟨s,t,u,w,x⟩:=ga k.o;have z:=cS k.o;have B:=aM k.o;go_wp2;refine bodyPost_ret (v:=.tuple #[.pointer none,.agg #[A 0,A 0,.string ⟨#[]⟩,A 0,A 0],A 2]) (by simp[results,results46,go_sem,s,t,u,w,x]) rfl ?_;exact⟨wE r.o (by omega) _ _ _ _ _,rfl⟩
theorem Zi(h:jO b a d)(c:Int)(m:¬(0<=c/\c<d))(f g i:Int):
  O 64 #[Z a,A c,.agg #[A f,A g],A i] b fun e n=>J b n/\e=.returned (.tuple #[.pointer none,.agg #[A 0,A 0,.string ⟨#[]⟩,A 0,A 0],A 2]):=by
 have j:=aa (((aoQ b.heap.size b).alloc (aoP _) (.cells #[A f,A g] 36)).alloc (by simp) (.cells #[A 0,A 0,.string ⟨#[]⟩,A 0,A 0] 97));have p:=aa (show((b.alloc (.cells #[A f,A g] 36)).alloc (.cells #[A 0,A 0,.string ⟨#[]⟩,A 0,A 0] 97)).heap[b.heap.size+1]?=some (.cells #[A 0,A 0,.string ⟨#[]⟩,A 0,A 0] 97 (0,0)) from Iz (by simp));have q:=aa (Mj (h.af j.o) c m f g true);clear h m;go_enter func64,ntmps64;go_wp2_with fail
 refine q.o.mono ?_;rintro e y ⟨k,rfl⟩;have l:=aa (bj p.o k);have r:=aa (j.o.trans (k.mono j.o.size));clear k;obtain⟨s,t,u,w,x⟩:=ga l.o;have z:=cS l.o;have B:=aM l.o;go_wp2;refine bodyPost_ret (v:=.tuple #[.pointer none,.agg #[A 0,A 0,.string ⟨#[]⟩,A 0,A 0],A 2]) (by simp[results,results64,go_sem,s,t,u,w,x]) rfl ?_;exact⟨wE r.o (by omega) _ _ _ _ _,rfl⟩
theorem Zj(h:jO b a d)(c:Int)(k:¬(0<=c/\c<d))(f g i:Int):
  O 59 #[Z a,A c,.agg #[A f,A g],A i] b fun e m=>J b m/\e=.returned (.tuple #[.pointer none,A 2]):=by
 have j:=aa ((aoQ b.heap.size b).alloc (aoP _) (.cells #[A f,A g] 36));have n:=aa (Mj (h.af j.o) c k f g true);clear h k;go_enter func59,ntmps59;go_wp2_with fail
 refine n.o.mono ?_;rintro e q ⟨l,rfl⟩;have p:=aa (j.o.trans (l.mono j.o.size));clear l;go_wp2;go_ret2
 exact⟨p.o,rfl⟩
theorem aiK(h:jO b a d)(c:Int)(j:¬(0<=c/\c<d))(f g n:Int)(k:ByteArray):
  O 23 #[Z a,A c,.agg #[A f,A g],.string k,A n] b fun e p=>e=.returned (A 2)/\J b p:=by
 have i:=aa ((aoQ b.heap.size b).alloc (aoP _) (.cells #[A f,A g] 36));have q:=aa (Mk (h.af i.o) c j f g k);clear h j;go_enter func23,ntmps23;go_wp2_with fail
 refine q.o.mono ?_;rintro e s ⟨l,rfl⟩;have m:=aa (i.o.trans (l.mono i.o.size));clear l;have r:=m.o.size;go_wp2;go_ret
 exact⟨rfl,(m.o.alloc r _)⟩
theorem aiL(h:jO b a d)(c:Int)(j:¬(0<=c/\c<d))(f g:Int)(k:ByteArray):
  O 78 #[Z a,A c,.agg #[A f,A g],.string k] b fun e n=>e=.returned (A 2)/\J b n:=by
 have i:=aa ((aoQ b.heap.size b).alloc (aoP _) (.cells #[A f,A g] 36));have p:=aa (Mk (h.af i.o) c j f g k);clear h j;go_enter func78,ntmps78;go_wp2_with fail
 refine p.o.mono ?_;rintro e r ⟨l,rfl⟩;have m:=aa (i.o.trans (l.mono i.o.size));clear l;have q:=m.o.size;go_wp2;go_ret
 exact⟨rfl,(m.o.alloc q _)⟩
theorem aiM(h:jO b a d)(c:Int)(k:¬(0<=c/\c<d))(f g i n:Int):
  O 33 #[Z a,A c,.agg #[A f,A g],A i,A n] b fun e p=>e=.returned (A 2)/\J b p:=by
 have j:=aa ((aoQ b.heap.size b).alloc (aoP _) (.cells #[A f,A g] 36));have q:=aa (Zi (h.af j.o) c k f g i);clear h k;go_enter func33,ntmps33;go_wp2_with fail
 refine q.o.mono ?_;rintro e s ⟨l,rfl⟩;have m:=aa (j.o.trans (l.mono j.o.size));clear l;have r:=m.o.size;go_wp2;go_ret
 exact⟨rfl,(m.o.alloc r _)⟩
theorem aiN(h:jO b a d)(c:Int)(k:¬(0<=c/\c<d))(f g i:Int):
  O 34 #[Z a,A c,.agg #[A f,A g],A i] b fun e n=>e=.returned (A 2)/\J b n:=by
 have j:=aa ((aoQ b.heap.size b).alloc (aoP _) (.cells #[A f,A g] 36));have p:=aa (Zi (h.af j.o) c k f g i);clear h k;go_enter func34,ntmps34;go_wp2_with fail
 refine p.o.mono ?_;rintro e r ⟨l,rfl⟩;have m:=aa (j.o.trans (l.mono j.o.size));clear l;have q:=m.o.size;go_wp2;go_ret
 exact⟨rfl,(m.o.alloc q _)⟩
theorem aiO(h:jO b a d)(c:Int)(l:¬(0<=c/\c<d))(f g:Int)(m:ByteArray)(p:Bool):
  O 38 #[Z a,A c,.agg #[A f,A g],.string m,.bool p] b fun e q=>e=.returned (.tuple #[.agg #[A 0,A 0],A 2])/\J b q:=by
 have j:=aa (((aoQ b.heap.size b).alloc (aoP _) (.cells #[A f,A g] 36)).alloc (by simp) (.cells #[A 0,A 0] 36));have r:=aa (show((b.alloc (.cells #[A f,A g] 36)).alloc (.cells #[A 0,A 0] 36)).heap[b.heap.size+1]?=some (.cells #[A 0,A 0] 36 (0,0)) from Iz (by simp));have s:=aa (Mk (h.af j.o) c l f g m);clear h l;go_enter func38,ntmps38;go_wp2_with fail
 refine s.o.mono ?_;rintro e t ⟨k,rfl⟩;have i:=aa (bj r.o k);have n:=aa (j.o.trans (k.mono j.o.size));clear k;have y:=n.o.size;obtain⟨u,z⟩:=bh i.o;have B:=cS i.o;have C:=aM i.o;have D:=World.new_ne t (H (b.heap.size+1)) u;obtain⟨w,x⟩:=YK i.o (A 0) (A 0) (.cells #[A 0,A 0,.string ⟨#[]⟩,A 0,A 0] 97);go_wp2;refine bodyPost_ret (v:=.tuple #[.agg #[A 0,A 0],A 2]) (by simp[results,results38,go_sem,w,x]) rfl ?_;exact⟨rfl,(((n.o.setCell (show b.heap.size<=b.heap.size+1 by omega) _).setCell (show b.heap.size<=b.heap.size+1 by omega) _).alloc (by simp[World.setCell];omega) _)⟩
theorem aiP(h:jO b a d)(c:Int)(m:¬(0<=c/\c<d))(f g i n:Int):
  O 32 #[Z a,A c,.agg #[A f,A g],A i,A n] b fun e r=>e=.returned (.tuple #[.agg #[A 0,A 0],A 2])/\J b r:=by
 have j:=aa (((aoQ b.heap.size b).alloc (aoP _) (.cells #[A f,A g] 36)).alloc (by simp) (.cells #[A 0,A 0] 36));have s:=aa (show((b.alloc (.cells #[A f,A g] 36)).alloc (.cells #[A 0,A 0] 36)).heap[b.heap.size+1]?=some (.cells #[A 0,A 0] 36 (0,0)) from Iz (by simp));have t:=aa (Zj (h.af j.o) c m f g i);clear h m;go_enter func32,ntmps32;go_wp2_with fail
 refine t.o.mono ?_;rintro e u ⟨k,rfl⟩;have l:=aa (bj s.o k);have p:=aa (j.o.trans (k.mono j.o.size));clear k;have x:=p.o.size;obtain⟨q,w⟩:=bh l.o;have y:=cS l.o;have z:=aM l.o;have B:=World.new_ne u (H (b.heap.size+1)) q;go_wp2;refine bodyPost_ret (v:=.tuple #[.agg #[A 0,A 0],A 2]) (by simp[results,results32,go_sem,q,w]) rfl ?_;exact⟨rfl,((p.o.setCell (show b.heap.size<=b.heap.size+1 by omega) _).setCell (show b.heap.size<=b.heap.size+1 by omega) _)⟩
theorem aiQ(h:jO b a d)(c:Int)(m:¬(0<=c/\c<d))(f g i:Int)(q:Bool):
  O 99 #[Z a,A c,.agg #[A f,A g],A i,.bool q] b fun e r=>e=.returned (.tuple #[.agg #[A 0,A 0],A 2])/\J b r:=by
 have j:=aa (((aoQ b.heap.size b).alloc (aoP _) (.cells #[A f,A g] 36)).alloc (by simp) (.cells #[A 0,A 0] 36));have s:=aa (show((b.alloc (.cells #[A f,A g] 36)).alloc (.cells #[A 0,A 0] 36)).heap[b.heap.size+1]?=some (.cells #[A 0,A 0] 36 (0,0)) from Iz (by simp));have t:=aa (Zj (h.af j.o) c m f g i);clear h m;go_enter func99,ntmps99;go_wp2_with fail
 refine t.o.mono ?_;rintro e u ⟨k,rfl⟩;have l:=aa (bj s.o k);have n:=aa (j.o.trans (k.mono j.o.size));clear k;have x:=n.o.size;obtain⟨p,w⟩:=bh l.o;have y:=cS l.o;have z:=aM l.o;have B:=World.new_ne u (H (b.heap.size+1)) p;go_wp2;refine bodyPost_ret (v:=.tuple #[.agg #[A 0,A 0],A 2]) (by simp[results,results99,go_sem,p,w]) rfl ?_;exact⟨rfl,((n.o.setCell (show b.heap.size<=b.heap.size+1 by omega) _).setCell (show b.heap.size<=b.heap.size+1 by omega) _)⟩
theorem aiR(h:jO b a d)(c:Int)(j:¬(0<=c/\c<d))(f g:Int):
  O 29 #[Z a,A c,.agg #[A f,A g]] b fun e l=>e=.returned (.tuple #[.slice none 0 0,A 2])/\J b l:=by
 have i:=aa ((aoQ b.heap.size b).alloc (aoP _) (.cells #[A f,A g] 36));have m:=aa (Mj (h.af i.o) c j f g true);clear h j;go_enter func29,ntmps29;go_wp2_with fail
 refine m.o.mono ?_;rintro e p ⟨k,rfl⟩;have n:=aa (i.o.trans (k.mono i.o.size));clear k;go_wp2;go_ret2
 exact⟨rfl,n.o⟩
theorem aiS(h:jO b a d)(c:Int)(j:¬(0<=c/\c<d))(f g:Int)(k:ByteArray):
  O 24 #[Z a,A c,.agg #[A f,A g],.string k] b fun e n=>e=.returned (.tuple #[.slice none 0 0,A 2])/\J b n:=by
 have i:=aa ((aoQ b.heap.size b).alloc (aoP _) (.cells #[A f,A g] 36));have p:=aa (Mk (h.af i.o) c j f g k);clear h j;go_enter func24,ntmps24;go_wp2_with fail
 refine p.o.mono ?_;rintro e r ⟨l,rfl⟩;have m:=aa (i.o.trans (l.mono i.o.size));clear l;have q:=m.o.size;go_wp2;go_ret2
 exact⟨rfl,(m.o.alloc q _)⟩
theorem aiT(h:jO b a d)(c:Int)(f:¬(0<=c/\c<d)):
  O 28 #[Z a,A c] b fun e g=>e=.returned (.tuple #[.string ⟨#[]⟩,A 2])/\J b g:=by
 have i:=aa (Rl h c f);clear h f;go_enter func28,ntmps28;go_wp2_with fail
 refine i.o.mono ?_;rintro e k ⟨rfl,j⟩;subst j;go_wp2;go_ret2
 exact⟨rfl,(aoQ _ _)⟩
theorem aiU(h:jO b a d)(c:Int)(f:¬(0<=c/\c<d)):
  O 25 #[Z a,A c] b fun e g=>e=.returned (.tuple #[.slice none 0 0,A 2])/\J b g:=by
 have i:=aa (Rl h c f);clear h f;go_enter func25,ntmps25;go_wp2_with fail
 refine i.o.mono ?_;rintro e k ⟨rfl,j⟩;subst j;go_wp2;go_ret2
 exact⟨rfl,aoQ _ _⟩
end
section
open Go.RowKit Tryz
open Go.ChangeMaps (setBlock)
attribute [local go_sem ↓] Go.wp_at_zero Go.wp_at_succ
theorem Walk.jY{c d b r seen l w}{a:World}(h:Walk c d b r seen l w)(e:a.heap[b]?=w.heap[b]?)(f:a.heap[r]?=w.heap[r]?):Walk c d b r seen l a:=⟨e.trans h.map,f.trans h.iter,h.seen,h.sub⟩
end
end Go.Proofs.YtnkpogjiiohapaaGreatDoor
