/- Our own text. -/
import Derived.Deep.CutBlock
import Derived.Deep.DeepCutAuto
import Derived.BigQuiet
import Derived.Test.YtnkpogjiiohapaaGreatDoorA30
set_option linter.unusedSimpArgs false
set_option linter.unusedVariables false
set_option maxRecDepth 1000000
set_option maxHeartbeats 4000000
namespace Go.Proofs.YtnkpogjiiohapaaGreatDoor
open Go.RowKit Tryz
variable {a l:Nat}{b m:World}{d:List (Nat×Nat)}{e:Value}{f:Act}{h:Array Oper}{i:Exit->Act->World->Prop}{j:List gq}{k:Oper}
theorem ajz{a:Act->World->Prop}{E:Prop}(o:k.guard=none)(s x:Operand)(p:k.op=.call {callee:=.builtin .append,args:= #[s,x],argTypes:= #[223,223]})(B:Nat)(v:Value)(l:List (Nat×Nat))(q:f.eval s=v)(r:jA B b v l)(g c:Nat)(y:Nat×Nat)(t:f.eval x=.slice (some (H g)) 1 c)(w:∀j u,(um y)[j]?=some u->b.cell? (K g j)=some u)(I:l.length<10000000)(z:B<=b.heap.size)(d:∀e m,jA B m e (l++[y])->b.grownBy m v.ownBlock->iT b v e->a (f.put k.dst e) m):
  if Region.wanted k (yielded h f.tmps)=true then Oper.wp prog k f b a i else E:=
 xi um 2 16 223 258 (.agg #[A 0,A 0]) (by kernel_rfl) underlying223 rfl (by omega) (fun _=>rfl)
  o s x p B v l q r g c y t w (fun u n=>by simp[um]at n;rcases n with rfl|rfl<;>rfl) (by omega) (by unfold maxLen;omega) z (fun e m C D F=>d e m (by unfold jA;simpa using C) D F)
theorem RE{c:Value}{t:TypeId}(h:b.heap[a]?=some (.cells #[e,c] t (0,0))):∀j u,[e,c][j]?=some u->b.cell? (K a j)=some u:=by
 intro j u d;simp only[World.cell?,h]
 match j,d with
 |0,d=>simpa using d
 |1,d=>simpa using d
theorem D1 {α:Type} (f:Nat->α) (c:Nat) (a b:α):upd (upd f c a) c b=upd f c b:=by
 funext i;by_cases e:i=c
 ·subst e;rw[bN,bN]
 ·rw[ck _ _ e,ck _ _ e,ck _ _ e]
theorem ajA(S:cq)(c:Nat)(a b:List (Nat×Nat)):mC (mC S c a) c b=mC S c b:=by
 unfold mC;simp only[D1]
theorem RF{g:Nat}(h:m.heap[g]?=b.heap[g]?)(c:b.cell? (K g a)=some e):m.cell? (K g a)=some e:=by
 simp only[World.cell?]at c⊢;rw[h];exact c
def pb (S:cq) (c:Nat) (a:List (Nat×Nat)) (k:Nat):cq:={mC S c a with has:=upd S.has c fun d=>if d<k then runN a d (S.has c d) 61 else S.has c d}
theorem ajB(S:cq)(c:Nat)(a:List (Nat×Nat)):pb S c a 0=mC S c a:=by
 unfold pb mC;simp only;congr 1;exact zS S.has c
theorem ajC(S:cq)(c:Nat)(a:List (Nat×Nat))(k:Nat):ow (pb S c a k) c k (S.has c k)=pb S c a k:=by
 unfold ow pb;simp only[bN,D1];congr 2;funext d;by_cases e:d=k
 ·subst e;rw[bN,if_neg (by omega)]
 ·rw[ck _ _ e]
theorem ajD(S:cq)(c:Nat)(a:List (Nat×Nat))(k:Nat):ow (pb S c a k) c k (runN a k (S.has c k) 61)=pb S c a (k+1):=by
 unfold ow pb;simp only[bN,D1];congr 2;funext d;by_cases e:d=k
 ·subst e;rw[bN,if_pos (by omega)]
 ·rw[ck _ _ e]
  by_cases b:d<k
  ·rw[if_pos b,if_pos (by omega)]
  ·rw[if_neg b,if_neg (by omega)]
theorem ajE(S:cq)(c d a b:Nat):ow (ow S c d a) c d b=ow S c d b:=by
 unfold ow;simp only[bN,D1]
theorem ajF(S:cq)(c:Nat)(l:List (Nat×Nat))(N:Nat)(h:∀f∈mB (S.has c) (S.wait c) l,f.1<N):mC (pb S c (mB (S.has c) (S.wait c) l) N) c ((mB (S.has c) (S.wait c) l).filter fun f=>decide (runN (mB (S.has c) (S.wait c) l) f.1 (S.has c f.1) 61<f.2))=vv S c l:=by
 unfold mC pb vv mC;simp only[D1];congr 2;funext d;by_cases e:d<N
 ·rw[if_pos e]
 ·rw[if_neg e,RD fun a=>e (h _ a)]
def IQ (W:World) (a:Addr):Nat:=match W.cell? a with
 |some (.int _ n)=>n.toNat
 |_=>0
theorem ajG{rest:List Oper}(m:k.guard=none)(s x:Operand)(n:k.op=.call {callee:=.builtin .append,args:= #[s,x],argTypes:= #[223,223]})(B:Nat)(v:Value)(l:List (Nat×Nat))(y:Nat×Nat)(o:f.eval s=v)(p:jA B b v l)(g:Nat)(q:f.eval x=.slice (some (H g)) 1 1)(r:b.heap[g]?=some (.cells #[A y.1,A y.2] 258 (0,0)))(C:l.length<1000000)(t:B<=b.heap.size)(a:∀e c,jA B c e (l++[y])->b.grownBy c v.ownBlock->wpList prog h i rest (f.put k.dst e) c):wpList prog h i (k::rest) f b:=
 Gv um 2 16 223 258 (.agg #[A 0,A 0]) (by kernel_rfl) underlying223 rfl (by omega) (fun _=>rfl)
  m s x n B v l [y] o p (.slice (some (H g)) 1 1) q (.inr ⟨_,_,rfl,fun j u d=>by
   have :((H g):Addr).add j=(K g j):=by unfold Addr.add;split <;>simp_all
   rw[this];rw[ape,aq8,apu]at d;exact RE r j u d⟩) (fun u d=>by simp[um]at d;rcases d with rfl|rfl<;>rfl) (by simp;omega) (by simp;unfold maxLen;omega) t (fun e c w z=>a e c (by unfold jA;simpa using w) z)
theorem ajH{F L I S x}(h:da b l F L I a S x)(c:Nat)(Q:c<a)(ok:nZ a S.P (S.wait c))(aI:jA 0 b e d)(ZN:∀k,e.ownBlock=some k->I k)(hl:∀f∈d,f.1<a/\f.2<=(S.P f.1).length):
  O 178 #[Z l,A c,e] b fun m w'=>(∃u,m=.returned u)/\kK l a F L I x.cO b w' (vv S c d):=by
 have hN:=h.cx.room.hN;have ed:=aa (show ∀i,i<a->(S.P i).length<=60 from fun i hi=>by rw[<-h.cx.ops i hi,aoU];exact h.cx.room.hsz i hi);obtain⟨Da,A4,IU,e7,gh,fk⟩:=bp aI;unfold maxLen at gh;have HRI:=aa ZN;have iA:=aa aI;have yf:=aa fk;have b8:=aa hl;have kO:=aa ok;obtain⟨c8,eX,IJ,EE,cr2⟩:∃c8 eX,x.aG=.slice (some (H c8)) a eX/\a<=eX/\b.cell? (K l 2)=some (.slice (some (H c8)) a eX):=by
  obtain⟨c8,eX,D,h1,_,k,_⟩:=h.Mp Q;exact⟨c8,eX,D,h1,k⟩
 have p3:(0:Int)<=(c:Int):=ao0 _;have kx:(c:Int)<(a:Int):=by omega
 have aC:=aa h;subst IU;clear h aI fk hl ok ZN;go_enter func178,ntmps178;go_upto_block 0 with fail
 go_cut [7] (fun i wc=>∃E y,da wc l F E I a (mC S c (mB (S.has c) (S.wait c) d)) y/\pS c F L E I x y b wc)
 case first =>
  go_wp2_with fail
  go_loopw [7] (fun i wr=>∃k:Nat,k<=d.length/\i=A k/\∃E y,da wr l F E I a (mC S c (mB (S.has c) (S.wait c) (d.take k))) y/\pS c F L E I x y b wr) (fun i _=>d.length-(intOf i).toNat)
  case atStart=>exact⟨0,aoR _,rfl,L,x,by simp[mC,mB,zS];exact aC.o,pS.below (aoQ _ _)⟩
  case round=>
   obtain⟨k,M,rfl,E,y,w,R⟩:=hrel;obtain⟨r,tr⟩:∃r,r=mB (S.has c) (S.wait c) (d.take k):=⟨_,rfl⟩;rw[<-tr]at w;have F8:nZ a S.P r:=by rw[tr];exact nZ.Mq _ kO.o fun f aD=>b8.o f (apx aD)
   have pZ:=F8.len hN ed.o;by_cases aE:k<d.length
   ·obtain⟨kW,rfl⟩:=yf.o k aE
    have ZO:jA 0 wr (.slice (some (H kW)) d.length A4) d:=b4 iA.o fun g ah=>R.Mr g (HRI.o g ah) (aoT iA.o g ah).2
    obtain⟨fz,eJ⟩:=jA.cells ZO rfl k aE;obtain⟨s,xt⟩:∃s,s=d[k].1:=⟨_,rfl⟩;obtain⟨t,rq⟩:∃t,t=d[k].2:=⟨_,rfl⟩;rw[<-xt]at fz;rw[<-rq]at eJ;have lT:d[k]=(s,t):=by rw[xt,rq]
    obtain⟨IV,hfP⟩:=b8.o d[k] (aoY _);rw[<-xt]at IV;obtain⟨U,ZP,a0,bc,b1,a6,a2,bd,a3,bV,D,_,kz,Y,B,ew,hU,aw,cY,iJ,qs,LA,_,_,yj,_,_,⟨ajI,D2⟩,_⟩:=w.Ms Q;have BJ:=R.aG;rw[D,IJ]at BJ;simp only[apo,apD,apS,and_true,true_and]at BJ;obtain⟨rfl,rfl⟩:=BJ;have F9:(mC S c r).wait c=r:=by unfold mC;simp only[bN]
    rw[F9]at B cY;have D3:wr.cell? (K a0 s)=some (A (S.has c s)):=yj s IV;obtain⟨X,nb⟩:∃X,X=S.has c s:=⟨_,rfl⟩;rw[<-nb]at D3;have yr:jA 0 wr (.slice b1 r.length a6) r:=by
     have :=w.wait c Q;rw[F9]at this;rw[<-cY];exact this
    have RG:=aa (fun W (N:J wr W)=>ZG (some (H a0)) (some (H a2)) (some (H a3)) a a a bc bd bV (.slice b1 r.length a6) r s t W (c5 yr N));have k9:=aa (show J wr wr.drew from(aoQ _ wr).drew);have qg:=aa yr;have bG:=aa w;have ys:=aa R;have Mt:=aa D2;have cP:=aM D2;have h5:(0:Int)<=(k:Int):=ao0 _;have eh:(k:Int)<(d.length:Int):=by omega
    have ajJ:(0:Int)<=(s:Int):=ao0 _;have ajK:(s:Int)<(a:Int):=by omega
    have RH:=aa (And.intro D cY);have uX:=aa (show mB (S.has c) (S.wait c) (d.take (k+1))=if X<t/\(s,t)∉r then r++[(s,t)] else r by
     rw[ajx aE,<-tr,lT,nb];rfl)
    have RI:=aa pZ;clear w R ZO F8 pZ D aw cY iJ qs D2 yr yj F9 lT xt rq nb tr kz;go_upto_region 4 with fail
    go_cut [8] from 25 to 32 (fun q IW=>q=.bool (decide ((s,t)∈r))/\J wr IW)
    case first =>
     go_region_law (first |(go_simp;go_at_call 195;refine(RG.o _ k9.o).mono ?_;rintro m w3 ⟨rfl,z⟩;have bK:=aa (Hq.o (mq z));clear z;dsimp only))
     all_goals(go_wp2_with fail;go_meet;exact⟨rfl,bK.o⟩)
    case rest=>
     obtain⟨rfl,z⟩:=hcut;replace fz:=af z fz;replace eJ:=af z eJ;replace Y:=af z Y;replace B:=af z B;replace D3:=af z D3;have mM:=z.size;have bK:=aa z;clear z;have Ga:=aa (ys.o.trans (pS.below bK.o));have oi:=aa (bG.o.af bK.o);have ez:=aa (bj Mt.o bK.o);have NB:=cS ez.o (c*4+1);by_cases lu:X<t
     ·have ai:decide ((X:Int)<(t:Int))=true:=by simp;omega
      have IX:(X:Int)<(t:Int):=by omega
      by_cases jr:(s,t)∈r
      ·have zT:decide ((s,t)∈r)=true:=by simpa using jr
       rw[zT];rw[if_neg (fun m=>m.2 jr)]at uX;clear jr;go_wp2_with fail
       go_quiet (fail)
       go_wp2;go_roundw
       case rel=>exact⟨k+1,by omega,by go_num,E,y,by rw[uX.o];exact oi.o.af (below_drewN (aoQ _ _) _),Ga.o.trans (pS.below (below_drewN (aoQ _ _) _))⟩
       case measure=>simp[intOf];omega
      ·have zT:decide ((s,t)∈r)=false:=by simpa using jr
       rw[zT];rw[if_pos ⟨lu,jr⟩]at uX;clear jr;have kp:=aa (show some U≠(Value.slice b1 r.length a6).ownBlock from fun m=>by
        obtain⟨cur,cH⟩:=bt qg.o m.symm;exact absurd (bz cH Mt.o) (by decide))
       have hg:=aa (c5 qg.o bK.o);have Ew:U<wc.heap.size:=by omega
       go_wp2_with fail
       go_quiet (fail)
       have C:J wc (wc.drewN nq):=below_drewN (aoQ _ _) _;generalize wc.drewN nq=hd at C⊢;replace fz:=af C fz;replace eJ:=af C eJ;replace B:=af C B;have fy:=World.new_ne hd (K U (c*4+1)) B;have bM:=aa (C.drew.alloc C.drew.size (.cells #[A s,A t] 258));have PZ:=aa (show hd.heap[U]?=wc.heap[U]? from C.block U Ew);have adE:U<hd.heap.size:=aoV Ew C.size;have afX:U≠hd.heap.size:=by omega
       clear C;go_wp2_with fail
       go_region_law (first |(refine ajz (by rfl) (.tmp 58) (.tmp 63) (by rfl) 0 (.slice b1 r.length a6) r (by rfl) (c5 hg.o bM.o) hd.heap.size 1 (s,t) (by rfl) (RE (bL hd.drew _)) (by have :=RI.o;omega) (aoR _) ?_;intro v4 w4 hj dB gp;have fN:w4.heap[U]?=wc.heap[U]?:=((dB.block U (aoV Ew bM.o.size) kp.o).trans (bM.o.block U Ew));have ta:=RF (fN.trans PZ.o.symm) B;have vH:=cS (fN.trans ez.o) (c*4+1);have eE:=aa hj;have kF:=aa dB;have jw:=aa gp;clear hj dB gp fN;obtain⟨a4,kc,wk,uL,qa,wF⟩:=bp eE.o;subst wk;clear uL qa wF))
       all_goals go_wp2
       all_goals go_roundw
       all_goals first
        |(simp[intOf];omega)
        |(
         obtain⟨gd,x',Di,Gb⟩:=oi.o.ZM Q ((aP.cQ bM.o).trans (aP.rN kF.o fun k M=>by rw[RH.o.2];exact M)) eE.o (fun k M=>by
          rw[RH.o.2];rcases jw.o with m|m
          ·rw[m]at M;exact .inl M
          ·exact .inr (aoS bM.o.size (m k M))) RH.o.1
         rw[ajA,aoW]at Di;rw[aoW]at Gb;exact⟨k+1,by omega,by go_num,gd,x',by rw[uX.o];exact Di,Ga.o.trans Gb⟩)
     ·have ai:decide ((X:Int)<(t:Int))=false:=by simp;omega
      have IX:¬(X:Int)<(t:Int):=by omega
      rw[if_neg (fun m=>lu m.1)]at uX;go_wp2_with fail
      go_quiet (fail)
      go_wp2;go_roundw
      case rel=>exact⟨k+1,by omega,by go_num,E,y,by rw[uX.o];exact oi.o.af (below_drewN (aoQ _ _) _),Ga.o.trans (pS.below (below_drewN (aoQ _ _) _))⟩
      case measure=>simp[intOf];omega
   ·have eh:k=d.length:=by omega
    subst eh;rw[aqa]at tr;have bG:=aa w;have ys:=aa R;clear w R;go_wp2;go_meet
    exact⟨E,y,by rw[<-tr];exact bG.o,ys.o⟩
 case rest=>
  obtain⟨E,y,l2,RJ⟩:=hcut;obtain⟨r,tr⟩:∃r,r=mB (S.has c) (S.wait c) d:=⟨_,rfl⟩;rw[<-tr]at l2;have F8:nZ a S.P r:=by rw[tr];exact nZ.Mq _ kO.o b8.o
  have RI:=aa (F8.len hN ed.o);obtain⟨U,ZP,a0,bc,b1,a6,a2,bd,a3,bV,D,_,kz,Y,B,ew,hU,aw,cY,iJ,qs,LA,_,_,_,_,_,_,_⟩:=l2.Ms Q;have BJ:=RJ.aG;rw[D,IJ]at BJ;simp only[apo,apD,apS,and_true,true_and]at BJ;obtain⟨rfl,rfl⟩:=BJ;have F9:(mC S c r).wait c=r:=by unfold mC;simp only[bN]
  rw[F9]at B cY;have du:=aa (show y.cp c 0=.slice (some (H a0)) a bc/\y.cp c 1=.slice b1 r.length a6/\y.cp c 2=.slice (some (H a2)) a bd/\y.cp c 3=.slice (some (H a3)) a bV/\y.aG=.slice (some (H U)) a ZP from⟨aw,cY,iJ,qs,D⟩);have IY:=aa F8;have uS:=aa l2;have ajL:=aa RJ;have RG:=aa tr;clear l2 RJ F8 D aw cY iJ qs F9 kz Y B ew hU tr cr2;go_upto_block 2 with fail
  go_cut [9] (fun i wd=>da wd l F E I a (pb S c r a) y/\pS c F L E I x y b wd)
  case first =>
   go_wp2_with fail
   go_loopw [9] (fun i wr=>∃k:Nat,k<=a/\i=A k/\da wr l F E I a (pb S c r k) y/\pS c F L E I x y b wr) (fun i _=>a-(intOf i).toNat)
   case atStart=>exact⟨0,aoR _,rfl,by rw[ajB];exact uS.o,ajL.o⟩
   case round=>
    obtain⟨k,M,rfl,w,R⟩:=hrel;have cr0:wr.cell? (H l)=some (A a):=by simp[World.cell?,w.cx.room.aI]
    have bG:=aa w;have ys:=aa R;clear w R;by_cases aE:k<a
    ·have Mu:(k:Int)<(a:Int):=by omega
     go_wp2_with fail
     have gM:=aa aE;go_loopw [10] (fun q lX=>∃n j:Nat,n=S.has c k+j/\n<=(S.P k).length/\runN r k n (61-j)=runN r k (S.has c k) 61/\da lX l F E I a (ow (pb S c r k) c k n) y/\pS c F L E I x y b lX) (fun _ W=>61-IQ W (K a0 k))
     case atStart=>exact⟨S.has c k,0,rfl,by rw[<-aC.o.cx.ops k aE,aoU];exact aC.o.cx.room.hle c k Q aE,rfl,by rw[ajC];exact bG.o,ys.o⟩
     case round=>
      obtain⟨n,j,ZQ,RK,fa,w,R⟩:=hrel;obtain⟨gC2,cC2,D,ajM,_,kz,Y,B,ew,hU⟩:=w.Mp Q;obtain⟨gH,nf,rH,EF,ay⟩:=w.cx.room.Cp Q;rw[du.o.2.2.2.2]at D;rw[du.o.1]at rH Y;rw[du.o.2.1]at B;rw[du.o.2.2.1]at ew;rw[du.o.2.2.2.1]at hU;simp only[apo,apD,apS,and_true,true_and]at D rH;obtain⟨rfl,rfl⟩:=D;obtain⟨rfl,rfl⟩:=rH;have Al:=ay k aE;rw[show(ow (pb S c r k) c k n).has c k=n by unfold ow;simp only[bN]]at Al;have anz:n<=60:=aoS RK (ed.o k aE);obtain⟨anA,ZR⟩:=bt (w.cx.room.hH c Q) (show(y.cp c 0).ownBlock=some a0 by rw[du.o.1];rfl);have yr:jA 0 wr (.slice b1 r.length a6) r:=by
       have :=w.wait c Q;rw[du.o.2.1,show(ow (pb S c r k) c k n).wait c=r by unfold ow pb mC;simp only[bN]]at this;exact this
      have uY:=aa (fun W (N:J wr W)=>show O 195 #[.agg #[.slice (some (H a0)) a bc,.slice b1 r.length a6,.slice (some (H a2)) a bd,.slice (some (H a3)) a bV],.agg #[A k,A ((n:Int)+1)]] W _ from ZG (some (H a0)) (some (H a2)) (some (H a3)) a a a bc bd bV (.slice b1 r.length a6) r k (n+1) W (c5 yr N));have k9:=aa (show J wr wr.drew from(aoQ _ wr).drew);have v7:=aa w;have ajN:=aa R;have HXH:=aa ZR;have Mv:=aa (And.intro ZQ (And.intro RK fa));have h5:(0:Int)<=(k:Int):=ao0 _;have sx:(0:Int)<=(n:Int):=ao0 _;have anB:(n:Int)<=60:=by omega
      have PY:IntKind.i64.wrap ((n:Int)+1)=(n:Int)+1:=apO _ (by omega);clear w R ZR yr ZQ RK fa ay;go_upto_region 10 with fail
      go_cut [10] from 75 to 88 (fun q IW=>q=.bool (decide ((k,n+1)∈r))/\J wr IW)
      case first =>
       go_region_law (first |(go_simp;go_at_call 195;refine(uY.o _ k9.o).mono ?_;rintro m w3 ⟨rfl,z⟩;have bK:=aa (Hq.o (mq z));clear z;dsimp only))
       all_goals(go_wp2_with fail;go_meet;exact⟨rfl,bK.o⟩)
      case rest=>
       obtain⟨rfl,z⟩:=hcut;replace Y:=af z Y;have ajO:=af z Al;have oi:=aa (v7.o.af z);have Ga:=aa (ajN.o.trans (pS.below z));have lq:=cS (bj HXH.o z) k;clear z;by_cases jr:(k,n+1)∈r
       ·have zT:decide ((k,n+1)∈r)=true:=by simpa using jr
        rw[zT];have Bq:=aa jr;clear jr zT;go_wp2;go_roundw
        case rel=>
         have hle:=(IY.o.2 _ Bq.o).2;obtain⟨h1,h2⟩:=oi.o.ajy Q gM.o (n:=n+1) hle du.o.1;rw[ajE]at h1;refine⟨n+1,j+1,by have :=Mv.o.1;omega,hle,?_,h1,Ga.o.trans h2⟩;rw[<-Mv.o.2.2,<-ZK Bq.o];have YF:=ed.o k gM.o;have :=Mv.o.1;simp only at hle;congr 1;omega
        case measure=>
         have m1:IQ wr (K a0 k)=n:=by unfold IQ;rw[Al];simp
         have m2:IQ (wc.setCell (K a0 k) (A ((n:Int)+1))) (K a0 k)=n+1:=by
          unfold IQ;rw[World.cell?_setCell_same' _ _ _ (by rw[ajO];rfl)];simp
         rw[m1,m2];omega
       ·have zT:decide ((k,n+1)∈r)=false:=by simpa using jr
        rw[zT];have Bq:=aa jr;clear jr zT;go_wp2;go_roundw
        case rel=>
         refine⟨k+1,by omega,by go_num,?_,Ga.o⟩;rw[<-ajD,<-Mv.o.2.2,RD Bq.o];exact oi.o
        case measure=>simp[intOf];omega
    ·have Mu:k=a:=by omega
     subst Mu;go_wp2;go_meet
     exact⟨bG.o,ys.o⟩
  case rest=>
   obtain⟨w,R⟩:=hcut;obtain⟨gC2,cC2,D,ajM,_,kz,Y,B,ew,hU⟩:=w.Mp Q;obtain⟨gH,nf,rH,EF,ay⟩:=w.cx.room.Cp Q;rw[du.o.2.2.2.2]at D;rw[du.o.1]at rH Y;rw[du.o.2.1]at B;simp only[apo,apD,apS,and_true,true_and]at D rH;obtain⟨rfl,rfl⟩:=D;obtain⟨rfl,rfl⟩:=rH;have yr:jA 0 wc (.slice b1 r.length a6) r:=by
    have :=w.wait c Q;rw[du.o.2.1,show(pb S c r a).wait c=r by unfold pb mC;simp only[bN]]at this;exact this
   obtain⟨a1',KC,jW,iz,eD,fM⟩:=bp yr;unfold maxLen at eD;simp only[apo,true_and]at jW;obtain⟨rfl,rfl⟩:=jW;have Zc:=aa (show ∀p,p<a->wc.cell? (K a0 p)=some (A (runN r p (S.has c p) 61:Nat)) from fun p ai=>by
    have :=ay p ai;rw[this];unfold pb;simp only[bN,if_pos ai])
   obtain⟨ajI,D2⟩:=bt w.cx.room.fx (show y.aG.ownBlock=some U by rw[du.o.2.2.2.2];rfl);have Mt:=aa D2;have cP:=aM D2;have dH:=aa yr;have HWF:=aa fM;have bG:=aa w;have ys:=aa R;clear w R yr fM D2 ay kz ew hU;go_wp2_with fail
   go_loopw [11,12] (fun v i wr=>∃k:Nat,k<=r.length/\i=A k/\(∃bX bQ,v=.slice bX ((r.take k).filter fun f=>decide (runN r f.1 (S.has c f.1) 61<f.2)).length bQ)/\jA wc.heap.size wr v ((r.take k).filter fun f=>decide (runN r f.1 (S.has c f.1) 61<f.2))/\J wc wr) (fun _ i _=>r.length-(intOf i).toNat)
   case atStart=>exact⟨0,aoR _,rfl,⟨none,0,rfl⟩,ao9 _ _ _ _,aoQ _ _⟩
   case round=>
    obtain⟨k,M,rfl,⟨bX,bQ,rfl⟩,AO,N⟩:=hrel;by_cases aE:k<r.length
    ·obtain⟨aoL,rfl⟩:=HWF.o k aE
     obtain⟨fz,eJ⟩:=jA.cells dH.o rfl k aE;obtain⟨s,xt⟩:∃s,s=r[k].1:=⟨_,rfl⟩;obtain⟨t,rq⟩:∃t,t=r[k].2:=⟨_,rfl⟩;rw[<-xt]at fz;rw[<-rq]at eJ;obtain⟨IV,hfP⟩:=IY.o.2 r[k] (aoY _);rw[<-xt]at IV;have D3:=Zc.o s IV;obtain⟨X,nb⟩:∃X,X=runN r s (S.has c s) 61:=⟨_,rfl⟩;rw[<-nb]at D3;replace fz:=af N fz;replace eJ:=af N eJ;replace D3:=af N D3;replace Y:=af N Y;replace B:=af N B;have nG:(r.take (k+1)).filter (fun f=>decide (runN r f.1 (S.has c f.1) 61<f.2))=(r.take k).filter (fun f=>decide (runN r f.1 (S.has c f.1) 61<f.2))++if X<t then[(s,t)] else[]:=by
      rw[aph aE,aqu];congr 1;rw[show r[k]=(s,t) by rw[xt,rq],nb];by_cases m:runN r s (S.has c s) 61<t
      ·simp[m]
      ·simp[m]
     have ud:=aa nG;obtain⟨IZ,EM⟩:∃IZ,IZ=(r.take k).filter (fun f=>decide (runN r f.1 (S.has c f.1) 61<f.2)):=⟨_,rfl⟩;have anC:IZ.length<=244:=by
      rw[EM];refine aoS (apK _ _) ?_;rw[ao7];have :=RI.o;omega
     rw[<-EM]at AO ud⊢;clear nG EM xt rq nb;have I0:=aa AO;have aK:=aa N;clear AO N;have h5:(0:Int)<=(k:Int):=ao0 _;have eh:(k:Int)<(r.length:Int):=by omega
     have ajJ:(0:Int)<=(s:Int):=ao0 _;have ajK:(s:Int)<(a:Int):=by omega
     by_cases lu:X<t
     ·rw[if_pos lu]at ud
      have IX:(X:Int)<(t:Int):=by omega
      go_wp2_with fail
      go_quiet (fail)
      have C:J wr (wr.drewN nq):=below_drewN (aoQ _ _) _;generalize wr.drewN nq=hd at C⊢;replace fz:=af C fz;replace eJ:=af C eJ;replace B:=af C B;have bM:=aa ((aK.o.trans (C.mono aK.o.size)).alloc (aoS aK.o.size C.size) (.cells #[A s,A t] 258));have Ff:=aa (c5 (c5 I0.o C) ((aoQ _ hd).alloc (aoP _) (.cells #[A s,A t] 258)));clear C;go_wp2_with (at_builtin;(refine ajG rfl (.tmp 132) (.tmp 140) rfl wc.heap.size (.slice bX IZ.length bQ) IZ (s,t) rfl Ff.o hd.heap.size rfl (bL hd _) (by omega) bM.o.size ?_;intro v4 w4 hj dB;have eE:=aa hj;have fw:=aa (bM.o.grown dB bM.o.size (fun k M=>(aoT Ff.o k M).1));clear hj dB;obtain⟨a4,kc,wk,uL,qa,wF⟩:=bp eE.o;subst wk;clear uL qa wF))
      go_roundw
      case rel=>exact⟨k+1,by omega,by go_num,⟨a4,kc,by rw[ud.o,aoW];rfl⟩,by rw[ud.o];have :=eE.o;rw[aoW]at this;exact this,fw.o⟩
      case measure=>simp[intOf];omega
     ·rw[if_neg lu,apu]at ud
      have IX:¬(X:Int)<(t:Int):=by omega
      go_wp2_with fail
      go_quiet (fail)
      go_wp2;go_roundw
      case rel=>exact⟨k+1,by omega,by go_num,⟨bX,bQ,by rw[ud.o]⟩,by rw[ud.o];exact c5 I0.o (below_drewN (aoQ _ _) _),aK.o.trans ((below_drewN (aoQ _ _) _).mono aK.o.size)⟩
      case measure=>simp[intOf];omega
    ·have eh:k=r.length:=by omega
     subst eh;rw[aqa]at AO⊢;have I0:=aa AO;have aK:=aa N;replace Y:=af N Y;replace B:=af N B;have lq:=cS (bj Mt.o N) (c*4+1);clear AO N;go_wp2;go_end0
     refine⟨⟨_,rfl⟩,?_⟩;obtain⟨gd,x',Di,Gb⟩:=bG.o.ZM Q (aP.cQ aK.o) (gC I0.o (aoR _)) (fun k M=>.inr (aoT I0.o k M).1) du.o.2.2.2.2;have o0:=RG.o;subst o0;rw[ajF S c d a fun f aD=>(IY.o.2 f aD).1]at Di;exact⟨F,gd,I,x',Di,ys.o.nT.trans Gb.nT,fun k M=>⟨M,(ys.o.trans Gb).Mr k M (aC.o.cJ k M)⟩,(ys.o.trans Gb).cO⟩
def ts (p:Nat×Nat->Bool) (q:List (Nat×Nat)):List jN:=(List.range (chunks q.length)).map fun j=>⟨false,[],((q.drop (8*j)).take 8).filter p⟩
theorem ajP{p:Nat×Nat->Bool}:(ts p d).length=chunks d.length:=by simp[ts]
theorem ajQ(h:a%8=0):chunks (a+1)=chunks a+1/\8*chunks a=a:=by unfold chunks;omega
theorem ajR(h:a%8≠0):chunks (a+1)=chunks a/\0<chunks a/\8*(chunks a-1)<a/\a<8*chunks a:=by unfold chunks;omega
theorem ajS{p:Nat×Nat->Bool}(h:d.length%8=0)(f:Nat×Nat):ts p (d++[f])=ts p d++[⟨false,[],[f].filter p⟩]:=by
 obtain⟨a,b⟩:=ajQ h;unfold ts;rw[aoW,ap1,a,apz,ao8];congr 1
 ·refine aqq fun j c=> ?_
  have e:=apQ.1 c;rw[arD (by omega),ap3 (by rw[apm];omega)]
 ·simp only[apb,apU,b]
  rw[arD (by omega),List.drop_length,apN];rfl
theorem ajT{p:Nat×Nat->Bool}(h:d.length%8≠0)(f:Nat×Nat):∃a m,ts p d=a++[⟨false,[],m⟩]/\ts p (d++[f])=a++[⟨false,[],m++[f].filter p⟩]/\m.length<=8:=by
 obtain⟨g,k,l,n⟩:=ajR h;obtain⟨c,b⟩:∃c,chunks d.length=c+1:=⟨chunks d.length-1,by omega⟩;refine⟨(List.range c).map fun j=>⟨false,[],((d.drop (8*j)).take 8).filter p⟩,((d.drop (8*c)).take 8).filter p,?_,?_,aoS (apK _ _) (by rw[ao7];omega)⟩
 ·unfold ts
  rw[b,apz,ao8];rfl
 ·unfold ts
  rw[aoW,ap1,g,b,apz,ao8];congr 1
  ·refine aqq fun j i=> ?_
   have o:=apQ.1 i;rw[arD (by omega),ap3 (by rw[apm];omega)]
  ·simp only[apb,apU]
   rw[arD (by omega),<-aqu];have e:((d.drop (8*c))++[f]).take 8=(d.drop (8*c)).take 8++[f]:=by
    rw[apc (by simp;omega),apc (by simp;omega)]
   rw[e]
theorem ajU{heard b c:Nat->Nat}:(ts (fun f=>decide (c f.1<f.2)) (lK heard b a)).take 3=qz a heard b c:=by
 unfold ts qz;rw[<-aqm,List.take_range,Nat.min_comm]
theorem RL(heard a:Nat->Nat)(n:Nat):lK heard a (n+1)=lK heard a n++(List.range (a n-heard n)).map fun j=>(n,heard n+1+j):=by
 unfold lK;rw[apz,apt];simp
theorem ZS{heard has:Nat->Nat}{b:Nat}:∀{n:Nat},(∀d,d<n->has d<=b)->(lK heard has n).length<=n*b
 |0,_=>by simp[lK]
 |n+1,h=>by
  rw[RL,aoW,aoU,ap4];have ih:=ZS (heard:=heard) (n:=n) fun d a=>h d (by omega)
  have :=h n (by omega);rw[apV];omega
def D4:gq:=⟨⟨false,[],[]⟩,.slice none 0 0,.slice none 0 0⟩
structure l7 (B:Nat) (w:World) (v:Value) (eg:List gq):Prop where
 row:yq B w v eg
 msg:∀m∈eg,m.mz=.slice none 0 0/\m.p.q=false/\m.p.heard=[]/\jA B w m.cb m.p.refs
 jy:eg.Pairwise fun a b=>∀k,a.cb.ownBlock=some k->b.cb.ownBlock≠some k
theorem l7.nil(B:Nat)(w:World):l7 B w (.slice none 0 0) []:=⟨ao9 _ _ _ _,fun m a=>(by cases a),List.Pairwise.nil⟩
theorem l7.af{w v}{w':World}(h:l7 a w v j)(c:J w w'):l7 a w' v j:=⟨c5 h.row c,fun m b=>⟨(h.msg m b).1,(h.msg m b).2.1,(h.msg m b).2.2.1,c5 (h.msg m b).2.2.2 c⟩,h.jy⟩
theorem l7.push{v}(h:l7 a m v j)(q:yq a b e (j++[D4]))(r:m.grownBy b v.ownBlock):l7 a b e (j++[D4]):=by
 refine⟨q,fun d l=> ?_,ap9.2 ⟨h.jy,aqZ _ _,fun f y i o k z=> ?_⟩⟩
 ·rcases aoZ.1 l with l|l
  ·obtain⟨s,t,u,n⟩:=h.msg d l
   refine⟨s,t,u,b4 n fun g p=>r.block g (aoT n g p).2 fun c=> ?_⟩;obtain⟨B,w⟩:=bt n p;obtain⟨C,x⟩:=bt h.row c.symm;exact absurd (bz w x) (by decide)
  ·rw[ao2]at l
   subst l;exact⟨rfl,rfl,rfl,ao9 _ _ _ _⟩
 ·rw[ao2]at o
  subst o;intro c;cases c
theorem ZT{y:gq}{v:Value}:∀(l:List gq),((l++[y]).flatMap iv).set (l.length*3+2) v=(l.flatMap iv)++[.bool y.p.q,y.mz,v]
 |[]=>rfl
 |x::l=>by
  have ih:=ZT (y:=y) (v:=v) l;rw[apC,ape,ape,apd,show(l.length+1)*3+2=(l.length*3+2)+1+1+1 by omega];show([Value.bool x.p.q,x.mz,x.cb]++(l++[y]).flatMap iv).set _ v=([Value.bool x.p.q,x.mz,x.cb]++l.flatMap iv)++_;simp only[apC,apN,aqM];rw[ih]
theorem l7.add{B w v'}{W:World}{m:gq}{n s:Nat}{f:Nat×Nat}(h:l7 B w (.slice (some (H l)) n s) (j++[m]))(q:n=j.length+1)(r:J w W)(y:jA B b v' (m.p.refs++[f]))(z:W.grownBy b m.cb.ownBlock)(N:iT W m.cb v'):
  l7 B (b.setCell (K l (j.length*3+2)) v') (.slice (some (H l)) n s) (j++[⟨⟨false,[],m.p.refs++[f]⟩,.slice none 0 0,v'⟩]):=by
 subst q;obtain⟨P,Q,m3,R⟩:=h.msg m (by simp);have C:w.ownsRow B 251 3 (.slice (some (H l)) (j.length+1) s) (j.length+1) ((j++[m]).flatMap iv):=by
  have :=h.row;unfold yq at this;rw[aoW]at this;exact this
 obtain⟨cur,t⟩:=bt C (g:=l) rfl;have D:=aM t;have S:m.cb.ownBlock≠some l:=fun e=>by
  obtain⟨E,i⟩:=bt R e;exact absurd (bz t i) (by decide)
 have F:b.heap[l]?=w.heap[l]?:=(z.block l (aoV D r.size) fun e=>S e.symm).trans (r.block l D);have U:b.ownsRow B 251 3 (.slice (some (H l)) (j.length+1) s) (j.length+1) ((j++[m]).flatMap iv):=b4 C fun g v=>by
  have e:l=g:=by simpa[Value.ownBlock]using v
  subst e;exact F
 have I:=IG U (j.length*3+2) v';rw[ZT,P,Q]at I;have L:∀a∈j,∀k,a.cb.ownBlock=some k->b.heap[k]?=w.heap[k]?/\k<w.heap.size/\k≠l:=fun a d k o=>by
  have u:=(h.msg a (by simp[d])).2.2.2;have x:=(aoT u k o).2;have X:=(ap9.1 h.jy).2.2 a d m (by simp) k o;refine⟨(z.block k (aoV x r.size) fun e=>X e.symm).trans (r.block k x),x,fun e=> ?_⟩;subst e;obtain⟨E,i⟩:=bt u o;exact absurd (bz t i) (by decide)
 have Y:v'.ownBlock≠some l:=fun e=>by
  obtain⟨E,i⟩:=bt y e;rw[F]at i;exact absurd (bz t i) (by decide)
 refine⟨?_,fun a d=> ?_,ap9.2 ⟨(ap9.1 h.jy).1,aqZ _ _,fun a d c M k o=> ?_⟩⟩
 ·unfold yq
  rw[aoW,apt];exact I
 ·rcases aoZ.1 d with d|d
  ·obtain⟨h1,h2,ak,u⟩:=h.msg a (by simp[d])
   refine⟨h1,h2,ak,b4 u fun g v=> ?_⟩;obtain⟨aj,_,cY⟩:=L a d g v;rw[dI cY];exact aj
  ·rw[ao2]at d
   subst d;exact⟨rfl,rfl,rfl,iW y Y v'⟩
 ·rw[ao2]at M
  subst M;intro e;obtain⟨_,aw,_⟩:=L a d k o;rcases N with q|q
  ·have e':m.cb.ownBlock=some k:=q▸e
   exact(ap9.1 h.jy).2.2 a d m (by simp) k o e'
  ·have :=q k e
   have :=r.size;omega
theorem ajW{rest:List Oper}(n:k.guard=none)(s x:Operand)(o:k.op=.call {callee:=.builtin .append,args:= #[s,x],argTypes:= #[223,223]})(B:Nat)(v:Value)(l:List (Nat×Nat))(y:Nat×Nat)(p:f.eval s=v)(q:jA B b v l)(g:Nat)(r:f.eval x=.slice (some (H g)) 1 1)(t:b.heap[g]?=some (.cells #[A y.1,A y.2] 258 (0,0)))(Q:l.length<1000000)(w:B<=b.heap.size)(c:∀d e,jA B e d (l++[y])->b.grownBy e v.ownBlock->iT b v d->wpList prog h i rest (f.put k.dst d) e):wpList prog h i (k::rest) f b:=by
 refine wpList_plain n fun _ z=> ?_
 obtain⟨a,C,D,E,F⟩:=info_parts (show(prog.info? 258).map (fun a=>(a.zero,a.size,a.bytes))=some (some (.agg #[A 0,A 0]),2,16) by kernel_rfl);obtain⟨d,e,I,L,M,N⟩:=Nz (P:=prog) b B 223 k.type 258 a _ 2 16 underlying223 C D E F rfl (by omega) v l.length (l.flatMap um) q (H g) 1 1 (um y) rfl
  (fun j u m=>by
   have :((H g):Addr).add j=(K g j):=by unfold Addr.add;split <;>simp_all
   rw[this];exact RE t j u m) (fun u m=>by simp[um]at m;rcases m with rfl|rfl<;>rfl) (by unfold maxLen;omega) (by omega) w
 unfold Oper.wp execOp;simp only[o,resolve,invoke,builtin,apk,apZ,apq,aqL,apb,apU,p,r,I];exact z _ _ (c d e (by unfold jA;simpa using L) M N)
end Go.Proofs.YtnkpogjiiohapaaGreatDoor
