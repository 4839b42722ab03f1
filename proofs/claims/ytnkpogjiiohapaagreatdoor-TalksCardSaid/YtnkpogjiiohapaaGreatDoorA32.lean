/- Our own text. -/
import Derived.Deep.CutBlock
import Derived.Deep.DeepCutAuto
import Derived.BigQuiet
import Derived.Test.YtnkpogjiiohapaaGreatDoorA31
set_option linter.unusedSimpArgs false
set_option linter.unusedVariables false
set_option maxRecDepth 1000000
set_option maxHeartbeats 4000000
namespace Go.Proofs.YtnkpogjiiohapaaGreatDoor
open Go.RowKit Tryz
variable {a d s u v w:Nat}{b k y:World}{e i j m n q:Nat->Prop}{f:cq}{h:fm}{l:Nat->Value}{r:Value}
theorem ajX{e:TypeId}{f:List Value}(h:b.ownsRow w e d (.slice (some (H s)) u v) u f)(g:a<=u):b.ownsRow w e d (.slice (some (H s)) a v) a (f.take (a*d)):=by
 refine⟨by rw[ao7,h.1];exact aqD (apJ _ g),?_⟩;rcases h.2 with⟨c,_⟩|⟨o,p,i,c,j,k,q,l,m,n⟩
 ·simp at c
 ·simp only[apo,apD,apS,and_true,true_and]at c
  obtain⟨rfl,rfl⟩:=c;refine .inr ⟨s,v,i,rfl,j,k,by omega,l,m,?_⟩;rw[<-n,aqs,aqD (apJ _ g)]
theorem ZU:∀(l:List gq) (m:Nat),(l.flatMap iv).take (m*3)=(l.take m).flatMap iv
 |[],m=>by simp
 |x::l,0=>by simp
 |x::l,m+1=>by
  have ih:=ZU l m;rw[ape,List.take_succ_cons,ape,show(m+1)*3=(iv x).length+m*3 by simp[iv];omega,List.take_length_add_append,ih]
theorem l7.mono{w v c}{B':Nat}(h:l7 a w v c)(d:B'<=a):l7 B' w v c:=⟨gC h.row d,fun m b=>⟨(h.msg m b).1,(h.msg m b).2.1,(h.msg m b).2.2.1,gC (h.msg m b).2.2.2 d⟩,h.jy⟩
theorem l7.take{B w b}{g c:Nat}(h:l7 B w (.slice (some (H g)) b.length c) b){m:Nat}(d:m<=b.length):l7 B w (.slice (some (H g)) m c) (b.take m):=by
 refine⟨?_,fun a e=>h.msg a (apx e),h.jy.sublist (List.take_sublist _ _)⟩;unfold yq;rw[ao7,aqD d,<-ZU];exact ajX h.row d
def RM (B:Nat) (W wr:World) (v n:Value) (p:Nat×Nat->Bool) (q:List (Nat×Nat)):Prop:=∃b c a,v=.slice b (List.length (α:=gq) a) c/\n=A (q.length:Nat)/\l7 B wr v a/\a.map gq.p=ts p q/\Below B W wr
theorem ajY{S hl}(w:da y d e i j a S h)(c:Nat)(hc:c<a)(ay:kJ 0 y r hl)(hlen:hl.length=a)(ab:∀n∈hl,n<=1000):
  O 179 #[Z d,A c,r] y fun x w'=>∃v L,x=.returned v/\l7 y.heap.size w' v L/\L.map gq.p=qz a (fun t=>hl.getD t 0) (S.has c) (S.lost c)/\J y w':=by
 have hN:=w.cx.room.hN;have ed:=aa (show ∀t,t<a->S.has c t<=60 from fun t hi=>aoS (w.cx.room.hle c t hc hi) (w.cx.room.hsz t hi));obtain⟨c8,eX,a0,bc,b1,a6,R,U,a3,bV,aj,EE,kz,dG,ee,ew,hU,aw,cY,iJ,qs,LA,Mi,hh3,yj,ZV,_,_,_⟩:=w.Ms hc;obtain⟨W,rD⟩:∃W,W=(S.wait c).length:=⟨_,rfl⟩;rw[<-rD]at ee;have jS:y.cell? (H d)=some (A a):=by simp[World.cell?,w.cx.room.aI]
 unfold kJ at ay;rw[hlen]at ay;obtain⟨aoM,oc,D5,hh4,hh5,Qo⟩:=bp ay;obtain⟨ey,rfl⟩:=Qo c hc;subst D5;have yM:=aa (show ∀l,l<a->y.cell? (K ey l)=some (A (hl.getD l 0:Nat)) from fun l ai=>by
  have :=iw (f:=o7) (k:=1) (fun _=>rfl) ay (by rw[hlen]) l (by omega) 0 (by omega);simp only[o7,aqf,apL,aqb]at this;rw[this,aq1,apH (by omega)];rfl)
 have Mw:=aa (show ∀l,l<a->hl.getD l 0<=1000 from fun l ai=>by
  rw[aq1,apH (by omega)];exact ab _ (aoY _))
 obtain⟨heard,zU⟩:∃heard:Nat->Nat,heard=fun t=>hl.getD t 0:=⟨_,rfl⟩
 rw[<-zU];have yM:=aa (show ∀l,l<a->y.cell? (K ey l)=some (A (heard l:Nat)) from fun l ai=>by rw[zU];exact yM.o l ai);have Mw:=aa (show ∀l,l<a->heard l<=1000 from fun l ai=>by rw[zU];exact Mw.o l ai);have P1:=aa yj;have pt:=aa ZV;have p3:(0:Int)<=(c:Int):=ao0 _;have kx:(c:Int)<(a:Int):=by omega
 obtain⟨p,ag⟩:∃p:Nat×Nat->Bool,p=fun f=>decide (S.lost c f.1<f.2):=⟨_,rfl⟩
 have RN:=aa ag;obtain⟨has,ik⟩:∃has:Nat->Nat,has=S.has c:=⟨_,rfl⟩;have Mx:=aa ik;have P:=aa (show J y (y.alloc (.cells #[.slice (some (H a0)) a bc,.slice b1 W a6,.slice (some (H R)) a U,.slice (some (H a3)) a bV] 225)) from(aoQ _ y).alloc (aoP _) _);obtain⟨C,ru⟩:∃C,C=y.alloc (.cells #[.slice (some (H a0)) a bc,.slice b1 W a6,.slice (some (H R)) a U,.slice (some (H a3)) a bV] 225):=⟨_,rfl⟩;have sI:=aa (show C.heap[y.heap.size]?=some (.cells #[.slice (some (H a0)) a bc,.slice b1 W a6,.slice (some (H R)) a U,.slice (some (H a3)) a bV] 225 (0,0)) by rw[ru];exact bL y _);have My:=aa (show C.heap.size=y.heap.size+1 by rw[ru];simp);rw[<-ru]at P;have ZW:=fun n:Nat=>(show n<100000->IntKind.i64.wrap ((n:Int).tmod 8)=((n%8:Nat):Int) from fun hn=>by
  rw[apO _ (by rw[Int.tmod_eq_emod_of_nonneg (by omega)];omega)];rw[Int.tmod_eq_emod_of_nonneg (by omega)];omega)
 have Lg:=aa ZW;clear w ay ab yj ZV aj aw cY iJ qs Qo zU ag ik ZW rD;go_enter func179,ntmps179;go_upto_block 0 with fail
 rw[<-ru];go_cut [7,9,10] (fun v n t wc=>RM C.heap.size C wc v n p (lK heard has a))
 case first =>
  go_wp2_with fail
  go_loopw [7,9,10] (fun v n t wr=>∃l:Nat,l<=a/\t=A l/\RM C.heap.size C wr v n p (lK heard has l)) (fun _ _ t _=>a-(intOf t).toNat)
  case atStart=>exact⟨0,aoR _,rfl,none,0,[],rfl,by simp[lK],l7.nil _ _,by simp[lK,ts,chunks],aoQ _ _⟩
  case round=>
   obtain⟨l,ai,rfl,bX,Q,L,rfl,rfl,D,E,F⟩:=hrel;have Gc:J y wr:=P.o.trans (F.mono P.o.size);have X:wr.heap[y.heap.size]?=some (.cells #[.slice (some (H a0)) a bc,.slice b1 W a6,.slice (some (H R)) a U,.slice (some (H a3)) a bV] 225 (0,0)):=(F.block _ (by rw[My.o];omega)).trans sI.o;have q0r:=af Gc jS;by_cases aE:l<a
   ·have rB:=af Gc (yM.o l aE)
    have hdb:=Mw.o l aE;obtain⟨aI,RO⟩:∃aI,aI=heard l:=⟨_,rfl⟩;rw[<-RO]at rB hdb;have LN:(0:Int)<=(l:Int):=ao0 _;have LO:(l:Int)<(a:Int):=by omega
    have I:=aa D;have M:=aa E;have dr:=aa F;have Mz:=aa RO;clear D E F X RO;go_wp2_with fail
    go_loopw [7,9,11] (fun v n B lX=>∃s:Nat,s<=has l-heard l/\B=A ((aI:Int)+1+(s:Int))/\RM C.heap.size C lX v n p (lK heard has l++(List.range s).map fun s=>(l,heard l+1+s))) (fun _ _ B _=>has l+1-(intOf B).toNat)
    case atStart=>exact⟨0,aoR _,by simp,bX,Q,L,rfl,by simp,I.o,by simpa using M.o,dr.o⟩
    case round=>
     obtain⟨s,ar,rfl,RP,RQ,I1,rfl,rfl,xK,RR,MA⟩:=hrel;obtain⟨q,ao⟩:∃q,q=lK heard has l++(List.range s).map fun s=>(l,heard l+1+s):=⟨_,rfl⟩
     rw[<-ao]at RR⊢;have Bi:q.length<=300:=by
      have h1:=ZS (heard:=heard) (has:=has) (b:=60) (n:=l) fun ca gL=>by rw[Mx.o];exact ed.o ca (by omega)
      have h2:=ed.o l aE;rw[<-Mx.o]at h2;have ak:l*60<=180:=by omega
      rw[ao,aoW,aoU,ap4];omega
     have ZX:J y wr:=P.o.trans (MA.mono P.o.size);have X:wr.heap[y.heap.size]?=some (.cells #[.slice (some (H a0)) a bc,.slice b1 W a6,.slice (some (H R)) a U,.slice (some (H a3)) a bV] 225 (0,0)):=(MA.block _ (by rw[My.o];omega)).trans sI.o;have cr:wr.cell? (V y 0)=some (.slice (some (H a0)) a bc):=by simp[World.cell?,X]
     have bT:wr.cell? (V y 2)=some (.slice (some (H R)) a U):=by simp[World.cell?,X]
     have hHd:=af ZX (P1.o l aE);have RS:=af ZX (pt.o l aE);obtain⟨ad,nb⟩:∃ad,ad=S.has c l:=⟨_,rfl⟩;obtain⟨wJ,np⟩:∃wJ,wJ=S.lost c l:=⟨_,rfl⟩;rw[<-nb]at hHd;rw[<-np]at RS;have YF:ad<=60:=by rw[nb];exact ed.o l aE
     have vE:=aa (show has l=ad by rw[Mx.o,nb]);have ly:=aa np;have zW:=aa xK;have MB:=aa RR;have MC:=aa MA;have j8:=aa ao;have vk:=aa ar;obtain⟨B,uO⟩:∃B:Nat,B=aI+1+s:=⟨_,rfl⟩;have yE:(aI:Int)+1+(s:Int)=(B:Int):=by omega
     rw[yE];have vN:=aa uO;clear xK RR MA ao X nb np ar yE uO;by_cases hle:B<=ad
     ·have ajZ:(B:Int)<=(ad:Int):=by omega
      go_upto_if 44 with fail
      go_cut [7] from 44 to 48 (fun v BO=>∃bX Q init m,v=.slice bX (List.length (α:=gq) init+1) Q/\l7 C.heap.size BO v (init++[m])/\J C BO/\init.map gq.p++[⟨false,[],m.p.refs++[(l,B)].filter p⟩]=ts p (q++[(l,B)])/\m.p.refs.length<=300/\init.length<=300)
      case first =>
       have kb:I1.length<=300:=by
        have :=congrArg List.length MB.o;rw[aoU,ajP]at this;rw[this];unfold chunks;omega
       by_cases FF:q.length%8=0
       ·have hb8:((q.length:Int)%8==0)=true:=by simp;omega
        have bM:=aa (show J C (wr.alloc (.cells #[.bool false,.slice none 0 0,.slice none 0 0] 251)) from MC.o.alloc MC.o.size _);have E4:=aa (zW.o.af ((aoQ _ wr).alloc (aoP _) (.cells #[.bool false,.slice none 0 0,.slice none 0 0] 251)));go_wp2_with (at_builtin;(refine ajq rfl (.tmp 45) (.tmp 47) rfl C.heap.size (.slice RP I1.length RQ) I1 [D4] rfl E4.o.row (.slice (some (V wr 0)) 1 1) rfl (ajr (m:=D4) rfl (bL wr _)) (fun u hu=>by simp[D4,iv]at hu;rcases hu with rfl|rfl<;>rfl) (by simp;omega) bM.o.size ?_;intro v4 w4 hj Y;have BP:=aa (E4.o.push hj Y);have fw:=aa (bM.o.grown Y bM.o.size (fun k hk=>(aoT E4.o.row k hk).1));obtain⟨a4,kc,wk,uL,qa,wF⟩:=bp hj;rw[aoW]at wk;subst wk;clear hj Y uL qa wF))
        all_goals go_meet
        all_goals exact⟨a4,kc,I1,D4,rfl,BP.o,fw.o,by rw[MB.o,ajS FF];rfl,by simp[D4],kb⟩
       ·have hb8:((q.length:Int)%8==0)=false:=by simp;omega
        obtain⟨ms,m,mn,o3,lC⟩:=ajT (p:=p) FF (l,B);have E:=MB.o;rw[mn]at E;obtain⟨init,z,zf,BC,BQ⟩:=List.map_eq_append_iff.1 E;obtain⟨m',eQ,zG⟩:∃m',z=[m']/\m'.p=⟨false,[],m⟩:=by
         match z,BQ with
         |[m'],BQ=>exact⟨m',rfl,by simpa using BQ⟩
         |[],BQ=>simp at BQ
         |m1::m2::z,BQ=>simp at BQ
        subst eQ zf;have cZ:=aa (And.intro o3 (And.intro BC zG));have PE:=aa (show m.length<=300 by omega);clear mn o3 lC E BC BQ zG;rw[aoW]at kb⊢;go_wp2;go_meet
        refine⟨RP,RQ,init,m',by simp,by simpa using zW.o,MC.o,?_,?_,?_⟩
        ·rw[cZ.o.1,cZ.o.2.1,cZ.o.2.2]
        ·rw[cZ.o.2.2];exact PE.o
        ·simp at kb;omega
      case rest=>
       obtain⟨bX,Q,init,m,rfl,D,F,E,ze,je⟩:=hcut;have aj0:J y wc:=P.o.trans (F.mono P.o.size);have X:wc.heap[y.heap.size]?=some (.cells #[.slice (some (H a0)) a bc,.slice b1 W a6,.slice (some (H R)) a U,.slice (some (H a3)) a bV] 225 (0,0)):=(F.block _ (by rw[My.o];omega)).trans sI.o;replace bT:wc.cell? (V y 2)=some (.slice (some (H R)) a U):=by simp[World.cell?,X]
       replace RS:=af aj0 (pt.o l aE);rw[<-ly.o]at RS;have fb:=D.row;unfold yq at fb;rw[aoW]at fb;obtain⟨lR,uB,wb,jW,jR,jI⟩:=bp fb;unfold maxLen at jR;simp only[apo,true_and,ap1]at wb;obtain⟨rfl,rfl⟩:=wb;obtain⟨N,rfl⟩:=jI init.length (by simp);have gm:=iw (f:=iv) (k:=3) (fun _=>rfl) fb (by simp) init.length (by simp) 2 (by omega);rw[show(init++[m])[init.length]'(by simp)=m by simp]at gm;have RT:wc.cell? (K N (init.length*3+2))=some m.cb:=gm;obtain⟨cx,rc,IU,_,_,_⟩:=bp (D.msg m (by simp)).2.2.2;rw[IU]at RT;obtain⟨cur,cH⟩:=bt fb (g:=N) rfl;have zz:=aa cH;have MD:=aM cH;have I:=aa D;have dr:=aa F;have M:=aa E;have ME:=aa IU;have Tq:(init.length:Int)<=300:=by omega
       have Fh:lK heard has l++(List.range (s+1)).map (fun s=>(l,heard l+1+s))=q++[(l,B)]:=by
        rw[apz,ao8,<-apf,<-j8.o,vN.o,Mz.o];rfl
       have MF:=aa Fh;have ZY:=aa (show s+1<=has l-heard l by
        have :=vN.o;have :=vE.o;have :=Mz.o;omega)
       clear D F E IU fb gm X cH jI Fh;by_cases np:wJ<B
       ·have aj1:(wJ:Int)<(B:Int):=by omega
        have aD:[(l,B)].filter p=[(l,B)]:=by
         rw[RN.o];simp only[aq3,List.filter_nil];rw[<-ly.o];simp[np]
        rw[aD]at M;clear aD;have bM:=aa (show J C (wc.alloc (.cells #[A l,A B] 258)) from dr.o.alloc dr.o.size _);have MG:=aa (show J wc (wc.alloc (.cells #[A l,A B] 258)) from(aoQ _ wc).alloc (aoP _) _);have yb:=aa (show jA C.heap.size (wc.alloc (.cells #[A l,A B] 258)) (.slice cx m.p.refs.length rc) m.p.refs by rw[<-ME.o];exact c5 (I.o.msg m (by simp)).2.2.2 MG.o);have kp:=aa (show some N≠(Value.slice cx m.p.refs.length rc).ownBlock from fun x=>by
         rw[<-ME.o]at x;obtain⟨iy,ov⟩:=bt (I.o.msg m (by simp)).2.2.2 x.symm;exact absurd (bz ov zz.o) (by decide))
        go_wp2_with (at_builtin;(refine ajW rfl (.tmp 67) (.tmp 71) rfl C.heap.size (.slice cx m.p.refs.length rc) m.p.refs (l,B) rfl yb.o wc.heap.size rfl (bL wc _) (by omega) bM.o.size ?_;intro v4 w4 hj Y gp;have fN:w4.heap[N]?=wc.heap[N]?:=((Y.block N (aoV MD MG.o.size) kp.o).trans (MG.o.block N MD));replace RT:=RF fN RT;have vH:=cS (fN.trans zz.o) (init.length*3+2);have fw:=aa (bM.o.grown Y bM.o.size (fun k hk=>(aoT yb.o k hk).1));have eE:=aa hj;have kF:=aa Y;have jw:=aa gp;clear hj Y gp fN;obtain⟨a4,kc,wk,uL,qa,wF⟩:=bp eE.o;subst wk;clear uL qa wF))
        go_roundw
        case rel=>
         have ZZ:=I.o.add rfl MG.o eE.o (by rw[ME.o];exact kF.o) (by rw[ME.o];exact jw.o);rw[aoW]at ZZ;refine⟨s+1,ZY.o,by have :=vN.o;congr 1;omega,some (H N),Q,_,?_,?_,ZZ,?_,fw.o.setCell (aoT I.o.row N rfl).1 _⟩
         ·rw[aoW];rfl
         ·rw[MF.o,aoW];rfl
         ·rw[MF.o,<-M.o,ao8]
          rfl
        case measure=>have :=vE.o;simp[intOf];omega
       ·have aj1:¬(wJ:Int)<(B:Int):=by omega
        have aD:[(l,B)].filter p=[]:=by
         rw[RN.o];simp only[aq3,List.filter_nil];rw[<-ly.o];simp[np]
        rw[aD,apu]at M;clear aD;go_wp2;go_roundw
        case rel=>
         obtain⟨m1,m2,m3,m4⟩:=I.o.msg m (by simp);refine⟨s+1,ZY.o,by have :=vN.o;congr 1;omega,some (H N),Q,init++[m],?_,?_,I.o,?_,dr.o⟩
         ·rw[aoW];rfl
         ·rw[MF.o,aoW];rfl
         ·rw[MF.o,<-M.o,ao8,List.map_singleton]
          congr 2;rw[<-m2,<-m3]
        case measure=>have :=vE.o;simp[intOf];omega
     ·have ajZ:¬(B:Int)<=(ad:Int):=by omega
      go_wp2;go_roundw
      case rel=>
       refine⟨l+1,by omega,by go_num,RP,RQ,I1,rfl,?_,zW.o,?_,MC.o⟩
       ·have wR:s=has l-heard l:=by have :=vk.o;have :=vN.o;have :=vE.o;have :=Mz.o;omega
        rw[RL,<-wR,<-j8.o]
       ·have wR:s=has l-heard l:=by have :=vk.o;have :=vN.o;have :=vE.o;have :=Mz.o;omega
        rw[RL,<-wR,<-j8.o];exact MB.o
      case measure=>simp[intOf];omega
   ·have hdN:l=a:=by omega
    subst hdN;have I:=aa D;have M:=aa E;have dr:=aa F;clear D E F;go_wp2;go_meet
    exact⟨bX,Q,L,rfl,rfl,I.o,M.o,dr.o⟩
 case rest=>
  obtain⟨bX,Q,L,rfl,rfl,D,E,F⟩:=hcut;have Gc:J y wc:=P.o.trans (F.mono P.o.size);have tX:=aa Gc;have M:=aa (show(L.map gq.p).take 3=qz a heard (S.has c) (S.lost c) by rw[E,RN.o,Mx.o,ajU]);have Z0:=aa (show y.heap.size<=C.heap.size by rw[My.o];omega);by_cases ak:3<L.length
  ·have Ow:(3:Int)<(L.length:Int):=by omega
   obtain⟨lR,uB,wb,jW,jR,jI⟩:=bp D.row;unfold maxLen at jR;simp only[apo,true_and]at wb;obtain⟨rfl,rfl⟩:=wb;obtain⟨N,rfl⟩:=jI 0 (by omega);have I:=aa (D.take (m:=3) (by omega));clear D E F Gc jI;go_wp2;go_ret
   exact⟨_,_,rfl,I.o.mono Z0.o,by rw[aqm];exact M.o,tX.o⟩
  ·have Ow:¬(3:Int)<(L.length:Int):=by omega
   have I:=aa D;clear D E F Gc;go_wp2;go_ret
   refine⟨.slice bX L.length Q,rfl,L,I.o.mono Z0.o,?_,tX.o⟩;rw[<-M.o,apc (by rw[aoU];omega)]
def wS (N:Nat) (P:Nat->List bu) (m:jN):Prop:=(m.q=true->m.heard.length=N/\∀n∈m.heard,n<=1000)/\∀f∈m.refs,f.1<N/\f.2<=(P f.1).length
theorem Z1(a:Bool):∀(b:List jN) (l:List jN) (u:jN),mA a l (b++[u])=if a=true\/12<=(mA a l b).length then mA a l b else mA a l b++[u]
 |[],l,u=>rfl
 |v::b,l,u=>by
  rw[apC];simp only[mA];exact Z1 a b _ u
theorem aj2{sh:Bool}{l us:List jN}{i:Nat}(a:i<us.length):mA sh l (us.take (i+1))=if sh=true\/12<=(mA sh l (us.take i)).length then mA sh l (us.take i) else mA sh l (us.take i)++[us[i]]:=by
 rw[aph a,Z1]
theorem Z2(b:Bool):∀(a l:List jN),l.length<=12->(mA b l a).length<=12
 |[],l,h=>h
 |u::a,l,h=>by
  simp only[mA];refine Z2 b a _ ?_;split
  ·exact h
  ·rename_i e
   rw[aoW,ap1];omega
theorem aj3(S:cq)(c d:Nat)(a b:List jN):gJ (gJ S c d a) c d b=gJ S c d b:=by
 unfold gJ;simp only[bN,D1]
theorem aj4(S:cq)(c d:Nat):gJ S c d (S.ms c d)=S:=by
 unfold gJ;rw[zS,zS]
def ur (S:cq) (c d:Nat) (l:Nat->Nat) (k:Nat):cq:={S with known:=upd S.known c (upd (S.known c) d fun i=>if i<k then max (S.known c d i) (l i) else S.known c d i)}
theorem aj5(S:cq)(c d:Nat)(l:Nat->Nat):ur S c d l 0=S:=by
 unfold ur;have e:(fun i=>if i<0 then max (S.known c d i) (l i) else S.known c d i)=S.known c d:=by
  funext i;rw[if_neg (ap5 _)]
 rw[e,zS,zS]
theorem aj6(S:cq)(c d:Nat)(l:Nat->Nat)(k:Nat)(h:S.known c d k<l k):IP (ur S c d l k) c d k (l k)=ur S c d l (k+1):=by
 unfold IP ur;simp only[bN,D1];congr 3;funext i;by_cases e:i=k
 ·subst e
  rw[bN,if_pos (by omega)];omega
 ·rw[ck _ _ e]
  by_cases a:i<k
  ·rw[if_pos a,if_pos (by omega)]
  ·rw[if_neg a,if_neg (by omega)]
theorem aj7(S:cq)(c d:Nat)(l:Nat->Nat)(k:Nat)(h:¬S.known c d k<l k):ur S c d l k=ur S c d l (k+1):=by
 unfold ur;congr 3;funext i;by_cases e:i=k
 ·subst e
  rw[if_neg (by omega),if_pos (by omega)];omega
 ·by_cases a:i<k
  ·rw[if_pos a,if_pos (by omega)]
  ·rw[if_neg a,if_neg (by omega)]
theorem aj8(S:cq)(c d:Nat)(l:Nat->Nat)(k:Nat):(ur S c d l k).known c d k=S.known c d k:=by
 unfold ur;simp only[bN];rw[if_neg (Nat.lt_irrefl _)]
theorem aj9(S:cq)(c d:Nat)(l:Nat->Nat)(N:Nat)(h:∀i,N<=i->l i=0):ur S c d l N=wK S c d l:=by
 unfold ur wK;congr 3;funext i;by_cases e:i<N
 ·rw[if_pos e]
 ·rw[if_neg e,h i (by omega)]
  omega
def pc (r N:Nat) (F L I c d a:Nat->Prop) (f:Nat->Value) (w b:World) (g:cq) (e:fm):Prop:=da b r c d a N g e/\c0 (sa F L I) (sa c d a) w b/\(∀k,I k->a k/\b.heap[k]?=w.heap[k]?)/\e.cO=f
theorem pc.to(c:pc a d e i j m n q l b k f h):kK a d e i j l b k f:=⟨m,n,q,h,c⟩
theorem pc.trans{r N F L I d e f g h i j w l m q n o p}(a:pc r N F L I d e f j w l q o)(b:pc r N d e f g h i o.cO l m n p):pc r N F L I g h i j w m n p:=
 ⟨b.1,a.2.1.trans b.2.1,fun k c=>⟨(b.2.2.1 k (a.2.2.1 k c).1).1,(b.2.2.1 k (a.2.2.1 k c).1).2.trans (a.2.2.1 k c).2⟩,b.2.2.2.trans a.2.2.2⟩
theorem pc.below(c:pc a d e i j m n q l b k f h)(o:J k y):pc a d e i j m n q l b y f h:=
 ⟨c.1.af o,c.2.1.after o,fun g p=>⟨(c.2.2.1 g p).1,(o.block g (c.1.cJ g (c.2.2.1 g p).1)).trans (c.2.2.1 g p).2⟩,c.2.2.2⟩
theorem pc.know{p r}(c:pc v a e j m q p r l b k f h){i n:Nat}(t:d<a)(x:s<a)(y:h.wL d s=.slice (some (H u)) a w):pc v a e j m q p r l b (k.setCell (K u i) (A n)) (IP f d s i n) h:=by
 obtain⟨B,C⟩:=c.1.ajw t x (i:=i) (n:=n) y;have D:(h.wL d s).ownBlock=some u:=by rw[y];rfl
 refine c.trans ⟨B,C,fun g z=>⟨z,dI fun o=> ?_⟩,rfl⟩;subst o;exact c.1.o8 g z (c.1.p5 d s t x g D)
theorem pc.RC{W}(g:pc v s j m n i e q l b k f h)(M:d<s)(N:a<s){t:gq}(P:J k y)(Q:aP (fun c=>fh (h.gK d a)=some c) y W)(R:jP W 251 3 r ((h.jx d a).length+1) ((h.jx d a++[t]).flatMap iv))(S:∀c,fh r=some c->fh (h.gK d a)=some c\/y.heap.size<=c)(U:rj y t)(C:∀c,t.mz.ownBlock=some c->¬i c/\¬e c/\b.heap.size<=c)(D:∀c,t.cb.ownBlock=some c->¬i c/\¬e c/\b.heap.size<=c)(X:h.cO d=.slice (some (H u)) s w):
  ∃B E,pc v s j m n i B E l b (W.setCell (K u (a*2+1)) r) (gJ f d a (f.ms d a++[t.p])) (r9 h d a r (h.jx d a++[t]))/\aP e k (W.setCell (K u (a*2+1)) r)/\∀c,B c->e c\/k.heap.size<=c:=by
 obtain⟨B,E,Y,z,F,cT,oq⟩:=g.1.ZC M N P Q R S U (fun c x=>.inr ⟨(C c x).1,(C c x).2.1⟩) (fun c x=>.inr ⟨(D c x).1,(D c x).2.1⟩) X;refine⟨B,E,⟨Y,⟨z.os.trans g.2.1.os,z.tape.trans g.2.1.tape,z.output.trans g.2.1.output,aoS g.2.1.size z.size,fun c x I=> ?_,?_⟩,fun c x=>⟨cT c (g.2.2.1 c x).1,(z.other c (g.1.cJ c (g.2.2.1 c x).1) (g.1.o8 c (g.2.2.1 c x).1)).trans (g.2.2.1 c x).2⟩,g.2.2.2⟩,z,F⟩
 ·rw[z.other c (aoV x g.2.1.size) fun o=> ?_]
  ·exact g.2.1.other c x I
  ·rcases g.2.1.sub c (.inr (.inl o)) with L|L
   ·exact I L
   ·omega
 ·rintro c (o|o|o)
  ·exact g.2.1.sub c (.inl o)
  ·rcases F c o with o|o
   ·exact g.2.1.sub c (.inr (.inl o))
   ·exact .inr (aoS g.2.1.size o)
  ·rcases oq c o with o|o|o
   ·exact g.2.1.sub c (.inr (.inr o))
   ·exact .inr (C c o).2.2
   ·exact .inr (D c o).2.2
theorem l7.stay{e}(h:l7 a b r e)(f:∀c,r.ownBlock=some c->k.heap[c]?=b.heap[c]?)(g:∀m∈e,∀c,m.cb.ownBlock=some c->k.heap[c]?=b.heap[c]?):l7 a k r e:=⟨b4 h.row f,fun m d=>⟨(h.msg m d).1,(h.msg m d).2.1,(h.msg m d).2.2.1,b4 (h.msg m d).2.2.2 (g m d)⟩,h.jy⟩
theorem aka{S x}(h:da b d j m e a S x)(c r:Nat)(D:c<a)(E:r<a)(bF:c≠r){p:jN}{bE:List jN}(iI:S.ms c r=p::bE)(ok:wS a S.P p)(Z4:nZ a S.P (S.wait r)):
  O 156 #[Z d,A c,A r] b fun s w'=>(∃u,s=.returned u)/\kK d a j m e x.cO b w' (vw a S c r):=by
 have hN:=h.cx.room.hN;obtain⟨zR,qd,gl,gV,ID,Hk,Z5,kb,aH,ee,ew⟩:=h.DX D E;have bV:b.cell? (K d 3)=some x.aQ:=by simp[World.cell?,h.cx.room.aI]
 rw[ID]at bV;obtain⟨q5,pJ,B,BN,wg⟩:=h.queue D E;rw[iI]at wg BN B;simp only[apd]at wg BN B;obtain⟨g,off,rfl⟩:=wg (by omega);obtain⟨n,hn⟩:∃n,n=bE.length:=⟨_,rfl⟩;rw[<-hn]at B BN;rw[B]at ew;obtain⟨t,l,dh,ag,hl,vo,f0,f1,f2,_⟩:=h.first D E iI B hn
 obtain⟨I2,N,I3,_,_,_⟩:=bp vo.1;obtain⟨ox,oy,yt,_,_,_⟩:=bp vo.2;have zc:=aa (h.each c r D E t (by rw[dh];simp));rw[I3]at f1;rw[yt]at f2;rw[ag]at I3 yt f1 f2;obtain⟨c4,rD⟩:∃c4,c4=p.heard.length:=⟨_,rfl⟩;obtain⟨Q,lN⟩:∃Q,Q=p.refs.length:=⟨_,rfl⟩;rw[<-rD]at f1 I3;rw[<-lN]at f2 yt;have MH:=aa (And.intro I3 yt);have NU:=aa (And.intro rD lN);have Dj:=aa ag;obtain⟨D6,RU⟩:∃D6,D6=p.q:=⟨_,rfl⟩;rw[<-RU]at f0;have RV:=aa RU;obtain⟨cc,sM⟩:∃cc,cc=b.alloc (.cells #[.bool D6,.slice I2 c4 N,.slice ox Q oy] 251):=⟨_,rfl⟩;have ax:=aa (show J b cc by rw[sM];exact(aoQ _ b).alloc (aoP _) _);have sI:=aa (show cc.heap[b.heap.size]?=some (.cells #[.bool D6,.slice I2 c4 N,.slice ox Q oy] 251 (0,0)) by rw[sM];exact bL b _);have b3:(x.cO c).ownBlock=some gl:=by rw[aH];rfl
 obtain⟨cur,cH⟩:=bt (h.hl c D) b3;have lq:=cS (bj cH ax.o) (r*2+1);have cP:=aM cH;have h1:=h.af ax.o;have MI:=aa (show ∀ku:Option Addr,(0<pJ-1->ku=some (K g (off+3)))->kK d a j m e x.cO cc (cc.setCell (K gl (r*2+1)) (.slice ku n (pJ-1))) (gJ S c r bE) from fun ku au=>by
  obtain⟨_,_,_,_,_,_,_,_,_,fA⟩:=h1.first D E iI B hn
  exact fA aH ku au)
 have aC:=aa h;have tt:=aa iI;have kO:=aa ok;have IY:=aa Z4;have kL1:=af ax.o Z5;have k21:=af ax.o ew;have p3:(0:Int)<=(c:Int):=ao0 _;have kx:(c:Int)<(a:Int):=by omega
 have LN:(0:Int)<=(r:Int):=ao0 _;have LO:(r:Int)<(a:Int):=by omega
 have fy:b.heap.size≠gl:=by omega
 clear h h1 cH b3 vo I3 yt ag hl dh hn rD lN RU iI ok Z4 ID B wg aH;go_enter func156,ntmps156;go_upto_region 2 with fail
 rw[<-sM];clear sM;go_cut [33] from 25 to 35 (fun v IW=>kK d a j m e x.cO cc IW (gJ S c r bE))
 case first =>
  go_wp2
  all_goals go_meet
  all_goals first
   |exact MI.o _ (fun _=>rfl)
   |(obtain rfl:pJ=1:=(by omega);exact MI.o (some (K g off)) (fun s=>by omega))
 case rest=>
  obtain⟨iZ,lE,nU,x2,r0,mu,oq,Z6⟩:=hcut;have y:pc d a j m e iZ lE nU x.cO b wc (gJ S c r bE) x2:=⟨r0,mu.before ax.o,fun k F=>⟨(oq k F).1,(oq k F).2.trans (ax.o.block k (aC.o.cJ k F))⟩,Z6⟩;have hz1:=ax.o.size;have I:wc.heap[b.heap.size]?=some (.cells #[.bool D6,.slice I2 c4 N,.slice ox Q oy] 251 (0,0)):=(mu.other _ (aM sI.o) (fun s=>by
   rcases s with s|s|s
   ·exact absurd (aC.o.cx.lt _ s) (by omega)
   ·exact absurd (aC.o.lt _ s) (by omega)
   ·exact absurd (aC.o.cJ _ s) (by omega))).trans sI.o
  have cr:wc.cell? (V b 0)=some (.bool D6):=by simp[World.cell?,I]
  have bx:wc.cell? (V b 1)=some (.slice I2 c4 N):=by simp[World.cell?,I]
  have bT:wc.cell? (V b 2)=some (.slice ox Q oy):=by simp[World.cell?,I]
  have vo:rj wc t:=zc.o.1.gU zc.o.2.1 zc.o.2.2 fun k F=>(y.2.2.1 k F).2
  have Z7:=aa I;have D7:=aa y;have HMC:=aa vo;clear I y vo r0 mu oq Z6 Z5 kL1 ee ew k21 f0 f1 f2 bV lq;cases D6 with
  |false=>
   have I4:jA 0 wc (.slice ox Q oy) p.refs:=by rw[<-MH.o.2,<-Dj.o];exact HMC.o.2
   have dj:=aa (ajH D7.o.1 r E (show nZ a (gJ S c r bE).P ((gJ S c r bE).wait r) from IY.o) I4 (fun k F=>(D7.o.2.2.1 k (zc.o.2.2 k (by rw[MH.o.2];exact F))).1) kO.o.2);clear I4;go_wp2_with fail
   refine dj.o.mono ?_;rintro s w3 ⟨⟨u,rfl⟩,rY,I5,BH,L,ak⟩;have aon:=aa (D7.o.trans ak);clear ak;go_wp2
   (try simp only[Exit.inBlock,Exit.then])
   refine bodyPost_ret (results_none rfl _ _ _) rfl ?_;refine⟨⟨_,rfl⟩,?_⟩;unfold vw;rw[tt.o];simp only;rw[if_neg (by rw[<-RV.o];simp)];exact aon.o.to
  |true=>
   obtain⟨fl,B9⟩:=kO.o.1 RV.o.symm;obtain⟨heard,zU⟩:∃heard:Nat->Nat,heard=fun i=>p.heard.getD i 0:=⟨_,rfl⟩
   have yM:=aa zU;obtain⟨rfl⟩:c4=a:=by rw[NU.o.1];exact fl
   have Gd:kJ 0 b (.slice I2 a N) p.heard:=by rw[<-MH.o.1,<-Dj.o];exact zc.o.1.1
   unfold kJ at Gd;rw[fl]at Gd;obtain⟨ma',mc',wb,mn,o3,lC⟩:=bp Gd;simp only[apo,true_and]at wb;obtain⟨rfl,rfl⟩:=wb;obtain⟨M,rfl⟩:=lC c D;have Z8:e M:=zc.o.2.1 M (by rw[MH.o.1];rfl);have HHC:=aa (show ∀i,i<a->b.cell? (K M i)=some (A (heard i:Nat)) from fun i hi=>by
    have :=iw (f:=o7) (k:=1) (fun _=>rfl) Gd (by rw[fl]) i (by omega) 0 (by omega);simp only[o7,aqf,apL,aqb]at this;rw[this,zU];simp only;rw[aq1,apH (by omega)];rfl)
   have HRH:=aa Gd;have Z9:=aa Z8;have Mw:=aa (show ∀i,i<a->heard i<=1000 from fun i hi=>by
    rw[zU];simp only;rw[aq1,apH (by omega)];exact B9 _ (aoY _))
   have uT:=aa (And.intro fl B9);obtain⟨c8,eX,a0,bc,b1,a6,a2,bd,a3,bV,aj,EE,kz,_,_,_,hU,_,_,_,_,_,_,FH,_,_,hr,_,_⟩:=D7.o.1.Ms E;have ij:=hr c D;have MJ:=D7.o.1.qq r c E D;unfold kJ at MJ;rw[aoU,ap4]at MJ;obtain⟨BM,hW,pY,c3,cF,hp⟩:=bp MJ;obtain⟨gk,rfl⟩:=hp c D;rw[pY]at ij;have Eo:=aa pY;obtain⟨R,Cw⟩:∃R,R=gJ S c r bE:=⟨_,rfl⟩;rw[<-Cw]at D7;have iG:=aa Cw;have a1:=aa (show wc.heap[b.heap.size]?=some (.cells #[.bool true,.slice (some (H M)) a N,.slice ox Q oy] 251 (0,0)) from Z7.o);clear Gd lC Z8 B9 zU aj hr MJ hp pY Cw Z7 bT;go_upto_block 0 with fail
   go_cut [9] (fun i wd=>pc d a j m e iZ lE nU x.cO b wd (wK R r c heard) x2/\wd.heap[b.heap.size]?=some (.cells #[.bool true,.slice (some (H M)) a N,.slice ox Q oy] 251 (0,0)))
   case first =>
    go_wp2_with fail
    go_loopw [9] (fun i wr=>∃k:Nat,k<=a/\i=A k/\pc d a j m e iZ lE nU x.cO b wr (ur R r c heard k) x2/\wr.heap[b.heap.size]?=some (.cells #[.bool true,.slice (some (H M)) a N,.slice ox Q oy] 251 (0,0))) (fun i _=>a-(intOf i).toNat)
    case atStart=>exact⟨0,aoR _,rfl,by rw[aj5];exact D7.o,a1.o⟩
    case round=>
     obtain⟨k,F,rfl,y,I⟩:=hrel;have fz:wr.cell? (H d)=some (A a):=by simp[World.cell?,y.1.cx.room.aI]
     have U:=aa y;have aT:=aa I;by_cases aE:k<a
     ·have RW:wr.cell? (V b 1)=some (.slice (some (H M)) a N):=by simp[World.cell?,I]
      have Al:=RF (y.2.2.1 M Z9.o).2 (HHC.o k aE);have I6:=y.1.qq r c E D;unfold kJ at I6;rw[aoU,ap4,Eo.o]at I6;have BR:=iw (f:=o7) (k:=1) (fun _=>rfl) I6 (by simp) k (by simpa using aE) 0 (by omega);simp only[o7,aqf,apL,aqb,apy,List.getElem_range,aj8]at BR;obtain⟨anD,MK⟩:=bt I6 (g:=gk) rfl;have lq:=cS MK k;obtain⟨jW,RX⟩:∃jW,jW=heard k:=⟨_,rfl⟩;obtain⟨I7,RY⟩:∃I7,I7=R.known r c k:=⟨_,rfl⟩;rw[<-RX]at Al;rw[<-RY]at BR;have Qc:=aa (show b.heap.size≠gk from fun s=>by
       rw[s]at I;exact absurd (bz I MK) (by decide))
      have dN:=aa (And.intro RX RY);have HCK:=aa MK;have h5:(0:Int)<=(k:Int):=ao0 _;have eh:(k:Int)<(a:Int):=by omega
      clear y I I6 MK RX RY;by_cases lu:I7<jW
      ·have IX:(I7:Int)<(jW:Int):=by omega
       go_wp2_with fail
       go_quiet (fail)
       have gQ:J wr (wr.drewN nq):=below_drewN (aoQ _ _) _;have HYQ:=aa (U.o.below gQ);have Fz:=aa (bj aT.o gQ);generalize wr.drewN nq=hd at gQ HYQ Fz⊢;replace RW:=af gQ RW;replace Al:=af gQ Al;replace BR:=af gQ BR;have xn:hd.frozen? (K gk k)=false:=cS (bj HCK.o gQ) k;clear gQ lq;go_wp2;go_roundw
       case rel=>
        refine⟨k+1,by omega,by go_num,?_,(dI Qc.o).trans Fz.o⟩;rw[<-aj6 R r c heard k (by rw[<-dN.o.1,<-dN.o.2];exact lu),<-dN.o.1];exact HYQ.o.know E D Eo.o
       case measure=>simp[intOf];omega
      ·have IX:¬(I7:Int)<(jW:Int):=by omega
       go_wp2_with fail
       go_quiet (fail)
       go_wp2;go_roundw
       case rel=>
        refine⟨k+1,by omega,by go_num,?_,bj aT.o (below_drewN (aoQ _ _) _)⟩;rw[<-aj7 R r c heard k (by rw[<-dN.o.1,<-dN.o.2];exact lu)];exact U.o.below (below_drewN (aoQ _ _) _)
       case measure=>simp[intOf];omega
     ·have Mu:k=a:=by omega
      subst Mu;clear y I;go_wp2;go_meet
      rw[<-aj9 R r c heard k fun i hi=>by rw[yM.o];simp only;rw[aq1,aqI (by have :=uT.o.1;omega)];rfl];exact⟨U.o,aT.o⟩
   case rest=>
    obtain⟨y,I⟩:=hcut;obtain⟨C,I8⟩:∃C,C=wK R r c heard:=⟨_,rfl⟩;rw[<-I8]at y;have zI:r≠c:=fun s=>bF s.symm
    have gI:C.sh r c=S.sh r c:=by rw[I8,iG.o];rfl
    have Em:C.ms r c=S.ms r c:=by rw[I8,iG.o];unfold wK gJ;simp only[ck _ _ zI]
    have e5:=aa (show vw a S c r=gJ C r c (mA (C.sh r c) (C.ms r c) (qz a heard (C.has r) (C.lost r))) by
     unfold vw;rw[tt.o];simp only;rw[if_pos RV.o.symm,gI,Em,I8,iG.o,yM.o];rfl)
    have RW:wc.cell? (V b 1)=some (.slice (some (H M)) a N):=by simp[World.cell?,I]
    obtain⟨gL2,cL2,Ge,cl2,aab,anE,kL2,anF,jR,_,_⟩:=y.1.DX E D;have c32:wc.cell? (K d 3)=some x2.aQ:=by simp[World.cell?,y.1.cx.room.aI]
    rw[aab]at c32;have I4:kJ 0 wc (.slice (some (H M)) a N) p.heard:=by
     unfold kJ;rw[uT.o.1];exact b4 HRH.o fun g ah=>by
      have s:M=g:=by simpa[Value.ownBlock]using ah
      subst s;exact(y.2.2.1 M Z9.o).2
    have bR:=aa (ajY y.1 r E I4 uT.o.1 uT.o.2);rw[<-yM.o]at bR;have U:=aa y;have re:=aa jR;clear y I I8 gI Em aab jR I4;go_upto_block 2 with(go_at_call 179;refine bR.o.mono ?_;rintro s w4 ⟨v,z,rfl,W,hf,fC⟩;have BP:=aa W;have akb:=aa hf;have fw:=aa fC;obtain⟨bX,Gf,D8,anG,akc,aac⟩:=bp W.row;subst D8;unfold maxLen at akc;have HVA:=aa aac;clear W hf fC aac)
    have ns:=aa (U.o.below fw.o);obtain⟨sh,gI⟩:∃sh,sh=C.sh r c:=⟨_,rfl⟩;obtain⟨us,ML⟩:∃us,us=z.map gq.p:=⟨_,rfl⟩;have tl:=aa (And.intro gI ML);have RZ:=aa (show us.length=z.length by rw[ML,aoU]);have akd:=aa (show us=qz a heard (C.has r) (C.lost r) by rw[ML];exact akb.o);clear gI ML;have Hh:=fw.o.size;have Br:=U.o.2.1.size;have aad:=aa (show ∀k,(∃t∈z,t.cb.ownBlock=some k)\/(Value.slice bX z.length Gf).ownBlock=some k->wc.heap.size<=k/\k<w4.heap.size from fun k F=>by
     rcases F with⟨t,hm,F⟩|F
     ·exact aoT (BP.o.msg t hm).2.2.2 k F
     ·exact aoT BP.o.row k F)
    go_wp2_with fail
    go_loopw [12] (fun i wr=>∃k:Nat,k<=z.length/\i=A k/\∃gd I' x',pc d a j m e iZ gd I' x.cO b wr (gJ C r c (mA sh (C.ms r c) (us.take k))) x'/\x'.cO=x2.cO/\l7 wc.heap.size wr (.slice bX z.length Gf) z/\(∀k,gd k->lE k\/w4.heap.size<=k)/\w4.heap.size<=wr.heap.size) (fun i _=>z.length-(intOf i).toNat)
    case atStart=>exact⟨0,aoR _,rfl,lE,nU,x2,by rw[List.take_zero,show mA sh (C.ms r c) []=C.ms r c from rfl,aj4];exact ns.o,rfl,BP.o,fun k F=>.inl F,aoP _⟩
    case round=>
     obtain⟨k,F,rfl,I5,BH,L,y,k2,W,R0,zi⟩:=hrel;by_cases aE:k<z.length
     ·obtain⟨BS,I9⟩:∃BS,BS=gJ C r c (mA sh (C.ms r c) (us.take k)):=⟨_,rfl⟩
      rw[<-I9]at y;have hs5:BS.sh r c=sh:=by rw[I9,tl.o.1];rfl
      have E0:BS.ms r c=mA sh (C.ms r c) (us.take k):=by rw[I9];unfold gJ;simp only[bN]
      obtain⟨gL5,cL5,gl5,cl5,_,_,_,_,R1,s5,xv⟩:=y.1.DX E D;rw[k2,re.o]at R1;simp only[apo,apD,apS,and_true,true_and]at R1;obtain⟨rfl,rfl⟩:=R1;rw[hs5]at s5;obtain⟨R2,R3,Fj,ake,_⟩:=y.1.queue E D;have KW:=aa Fj;obtain⟨X,Fp⟩:∃X,X=(BS.ms r c).length:=⟨_,rfl⟩;rw[<-Fp]at Fj ake;rw[Fj]at xv;obtain⟨hx,rfl⟩:=HVA.o k aE;have fb:=W.row;unfold yq at fb;have gm:∀w u,(iv z[k])[w]?=some u->w<3->wr.cell? (K hx (k*3+w))=some u:=fun w u hu ar=>by
       have :=iw (f:=iv) (k:=3) (fun _=>rfl) fb rfl k aE w ar;rw[this];exact hu
      obtain⟨y1,y2,y3,y4⟩:=W.msg z[k] (aoY _);obtain⟨R4,R5,Ja,_,_,_⟩:=bp y4;obtain⟨Jb,Jc⟩:∃Jb,Jb=z[k].p.refs.length:=⟨_,rfl⟩;rw[<-Jc]at Ja;have g0:wr.cell? (K hx (k*3))=some (.bool false):=gm 0 (.bool false) (by unfold iv;rw[y2];rfl) (by omega);have g1:=gm 1 (.slice none 0 0) (by unfold iv;rw[y1];rfl) (by omega);have g2:=gm 2 (.slice R4 Jb R5) (by unfold iv;rw[Ja];rfl) (by omega);have huk:us[k]'(by rw[RZ.o];exact aE)=z[k].p:=by simp only[tl.o.2,apy]
      have nG:=aj2 (sh:=sh) (l:=C.ms r c) (us:=us) (i:=k) (by rw[RZ.o];exact aE);rw[huk,<-E0,<-Fp]at nG;have ud:=aa nG;have vl:=aa (And.intro Fp (And.intro E0 I9));have Y:=aa y;have R6:=aa W;have MM:=aa k2;have xU:=aa R0;have HYM:=aa (show iv z[k]=[.bool false,.slice none 0 0,.slice R4 Jb R5] by unfold iv;rw[y1,y2,Ja]);have R7:=aa (And.intro y1 Ja);have HYI:=aa (show rj wr z[k] from⟨by rw[y1,y3];exact ao9 _ _ _ _,gC y4 (aoR _)⟩);have HYB:=aa (show ∀q,z[k].cb.ownBlock=some q->¬iZ q/\¬I5 q/\b.heap.size<=q from fun q B=>by
       obtain⟨bx,bT⟩:=aad.o q (.inl ⟨_,aoY _,B⟩);refine⟨fun s=>absurd (U.o.1.cx.lt q s) (by omega),fun s=> ?_,by omega⟩;rcases R0 q s with s|s
       ·exact absurd (U.o.1.lt q s) (by omega)
       ·omega)
      have h5:(0:Int)<=(k:Int):=ao0 _;have eh:(k:Int)<(z.length:Int):=by omega
      obtain⟨anH,R8⟩:=bt (y.1.hl r E) (g:=Ge) (by rw[k2,re.o];rfl);have zz:=aa R8;have MD:=aM R8;clear y k2 W R0 fb gm y1 y2 y3 y4 Ja Jc huk nG Fp E0 I9 hs5 Fj R8;cases sh with
      |true=>
       go_wp2;go_roundw
       case rel=>
        refine⟨k+1,by omega,by go_num,I5,BH,L,?_,MM.o,R6.o,xU.o,zi⟩;rw[ud.o,if_pos (.inl rfl),vl.o.2.1,<-vl.o.2.2];exact Y.o
       case measure=>simp[intOf];omega
      |false=>
       by_cases ou:X<12
       ·have II:(X:Int)<12:=by omega
        have HQ6:=aa (show L.gK r c=.slice R2 X R3 by rw[KW.o,vl.o.1]);have qQ:=aa (show(L.jx r c).length=X by rw[vl.o.1,<-Y.o.1.pm r c E D,aoU]);have IK:=aa (show jP wr 251 3 (.slice R2 X R3) (L.jx r c).length ((L.jx r c).flatMap iv) by rw[<-HQ6.o];exact Y.o.1.ao r c E D);have kp:=aa (show fh (L.gK r c)≠some Ge from fun s=>by
         obtain⟨iy,b7⟩:=(Y.o.1.ao r c E D).lt s;exact absurd (bz zz.o b7) (by decide))
        have anI:=World.new_ne wr (K Ge (c*2+1)) xv;have anJ:Ge≠wr.heap.size:=by omega
        have bM:=aa (show J wr (wr.drew.alloc (.cells #[.bool false,.slice none 0 0,.slice R4 Jb R5] 251)) from(aoQ _ wr).drew.alloc (aoP _) _);have De:Ge<wr.drew.heap.size:=MD;have F7:=aa ou;go_wp2_with fail
        go_region_law (first
         |(refine Zz iv 3 56 247 251 (.agg #[.bool false,.slice none 0 0,.slice none 0 0]) (by kernel_rfl) underlying247 rfl (by omega) (fun _=>rfl) (by rfl) (.tmp 118) (.tmp 123) (by rfl) (.slice R2 X R3) (L.jx r c) (by rfl) (IK.o.af fun k F=>bM.o.block k (by obtain⟨iy,b7⟩:=IK.o.lt F;exact aM b7)) wr.heap.size 1 (z[k]'aE) (by rfl) (by rw[HYM.o];exact Rz (bL _ _)) (ZB R7.o.1 R7.o.2) (by rw[qQ.o];have :=F7.o;omega) (by rw[qQ.o];have :=F7.o;unfold maxLen;omega) ?_;intro v6 w6 hj dB gp;rw[<-HQ6.o]at dB gp;have eE:=aa hj;have kF:=aa dB;have jw:=aa gp;have gn:=aa ((dB.other Ge (by simp;omega) kp.o).trans ((hV _ _ De).trans zz.o));replace xv:=dB.cell kp.o (af bM.o xv);clear hj dB gp;obtain⟨EN,n6c,rfl⟩:=eE.o.form;have vH:=cS gn.o (c*2+1)))
        all_goals go_wp2
        all_goals go_roundw
        all_goals first
         |(simp[intOf];omega)
         |(
          obtain⟨aoo,aop,akf,R9,hL6⟩:=Y.o.RC E D bM.o kF.o eE.o jw.o (HYI.o.af bM.o) (fun q B=>by rw[R7.o.1]at B;cases B) HYB.o (by rw[MM.o];exact re.o);have Cm:∀q,((∃t∈z,t.cb.ownBlock=some q)\/(Value.slice (some (H hx)) z.length Gf).ownBlock=some q)->q<wr.heap.size/\¬I5 q:=fun q B=>by
           obtain⟨bx,bT⟩:=aad.o q B;refine⟨by omega,fun s=> ?_⟩;rcases xU.o q s with s|s
           ·exact absurd (U.o.1.lt q s) (by omega)
           ·omega
          refine⟨k+1,by omega,by go_num,aoo,aop,r9 L r c (.slice EN ((L.jx r c).length+1) n6c) (L.jx r c++[z[k]]),?_,MM.o,R6.o.stay (fun q B=>R9.other q (Cm q (.inr B)).1 (Cm q (.inr B)).2) (fun t hm q B=>R9.other q (Cm q (.inl ⟨t,hm,B⟩)).1 (Cm q (.inl ⟨t,hm,B⟩)).2),fun q B=> ?_,aoS zi R9.size⟩
          ·rw[ud.o,if_neg (by have :=F7.o;simp;omega)]
           have qs:gJ BS r c (BS.ms r c++[z[k].p])=gJ C r c (BS.ms r c++[z[k].p]):=by
            conv=>lhs;rw[vl.o.2.2]
            rw[aj3,<-vl.o.2.2]
           rw[<-qs];exact akf
          ·rcases hL6 q B with s|s
           ·exact xU.o q s
           ·exact .inr (aoS zi s))
       ·have II:¬(X:Int)<12:=by omega
        go_wp2;go_roundw
        case rel=>
         refine⟨k+1,by omega,by go_num,I5,BH,L,?_,MM.o,R6.o,xU.o,zi⟩;rw[ud.o,if_pos (.inr (by omega)),vl.o.2.1,<-vl.o.2.2];exact Y.o
        case measure=>simp[intOf];omega
     ·have eh:k=z.length:=by omega
      subst eh;have Y:=aa y;clear y W;go_wp2;go_end0
      refine⟨⟨_,rfl⟩,?_⟩;rw[e5.o,<-akd.o,<-tl.o.1];rw[<-RZ.o,aqa]at Y;exact Y.o.to
end Go.Proofs.YtnkpogjiiohapaaGreatDoor
