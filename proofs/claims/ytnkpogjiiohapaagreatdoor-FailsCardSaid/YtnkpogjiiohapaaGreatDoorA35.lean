/- Our own text. -/
import Derived.Deep.CutBlock
import Derived.Deep.DeepCutAuto
import Derived.BigQuiet
import Derived.Test.YtnkpogjiiohapaaGreatDoorA34
set_option linter.unusedSimpArgs false
set_option linter.unusedVariables false
set_option maxRecDepth 1000000
set_option maxHeartbeats 4000000
namespace Go.Proofs.YtnkpogjiiohapaaGreatDoor
open Go.RowKit Tryz
variable {a b e r C D:Nat}{c:bP}{d k E:World}{f j l s u v:Nat->Prop}{h:Value}{i:ep}{m:List (Nat×Nat)}{n:List fm}{q:Nat->Value}{w:Act}{y:Array Oper}{z:Exit->Act->World->Prop}{B:Oper}
theorem akx{e:Act->World->Prop}{E:Prop}(m:B.guard=none)(s x:Operand)(n:B.op=.call {callee:=.builtin .append,args:= #[s,x],argTypes:= #[223,223]})(a:Nat)(v:Value)(l:List (Nat×Nat))(o:w.eval s=v)(p:jE a d v l)(g c:Nat)(b:Nat×Nat)(q:w.eval x=.slice (some (H g)) 1 c)(r:∀j u,(uQ b)[j]?=some u->d.cell? (K g j)=some u)(I:l.length<10000000)(t:a<=d.heap.size)(h:∀f i,jE a i f (l++[b])->d.grownBy i v.ownBlock->iR d v f->e (w.put B.dst f) i):
  if Region.wanted B (yielded y w.tmps)=true then Oper.wp prog B w d e z else E:=
 xO uQ 2 16 223 258 (.agg #[A 0,A 0]) (by kernel_rfl) underlying223 rfl (by omega) (fun _=>rfl)
  m s x n a v l o p g c b q r (fun u k=>by simp[uQ]at k;rcases k with rfl|rfl<;>rfl) (by omega) (by unfold maxLen;omega) t (fun f i C D F=>h f i (by unfold jE;simpa using C) D F)
theorem SA{b:Value}{t:TypeId}(c:d.heap[a]?=some (.cells #[h,b] t (0,0))):∀j u,[h,b][j]?=some u->d.cell? (K a j)=some u:=by
 intro j u e;simp only[World.cell?,c]
 match j,e with
 |0,e=>simpa using e
 |1,e=>simpa using e
theorem EE {α:Type} (f:Nat->α) (c:Nat) (a b:α):upd (upd f c a) c b=upd f c b:=by
 funext i;by_cases e:i=c
 ·subst e;rw[bF,bF]
 rw[b6 _ _ e,b6 _ _ e,b6 _ _ e]
theorem aky(S:bP)(c:Nat)(a b:List (Nat×Nat)):mE (mE S c a) c b=mE S c b:=by
 unfold mE;simp only[EE]
theorem SB{g:Nat}(b:k.heap[g]?=d.heap[g]?)(c:d.cell? (K g a)=some h):k.cell? (K g a)=some h:=by
 simp only[World.cell?]at c⊢;rw[b];exact c
def pB (S:bP) (c:Nat) (a:List (Nat×Nat)) (k:Nat):bP:={mE S c a with has:=upd S.has c fun d=>if d<k then runN a d (S.has c d) 61 else S.has c d}
theorem akz(S:bP)(c:Nat)(a:List (Nat×Nat)):pB S c a 0=mE S c a:=by
 unfold pB mE;simp only;congr 1;exact wb S.has c
theorem akA(S:bP)(c:Nat)(a:List (Nat×Nat))(k:Nat):oI (pB S c a k) c k (S.has c k)=pB S c a k:=by
 unfold oI pB;simp only[bF,EE];congr 2;funext d;by_cases e:d=k
 ·subst e;rw[bF,if_neg (by omega)]
 rw[b6 _ _ e]
theorem akB(S:bP)(c:Nat)(a:List (Nat×Nat))(k:Nat):oI (pB S c a k) c k (runN a k (S.has c k) 61)=pB S c a (k+1):=by
 unfold oI pB;simp only[bF,EE];congr 2;funext d;by_cases e:d=k
 ·subst e;rw[bF,if_pos (by omega)]
 rw[b6 _ _ e];by_cases b:d<k
 ·rw[if_pos b,if_pos (by omega)]
 rw[if_neg b,if_neg (by omega)]
theorem akC(S:bP)(c d a b:Nat):oI (oI S c d a) c d b=oI S c d b:=by
 unfold oI;simp only[bF,EE]
theorem akD(S:bP)(c:Nat)(l:List (Nat×Nat))(N:Nat)(h:∀f∈mC (S.has c) (S.wait c) l,f.1<N):mE (pB S c (mC (S.has c) (S.wait c) l) N) c ((mC (S.has c) (S.wait c) l).filter fun f=>decide (runN (mC (S.has c) (S.wait c) l) f.1 (S.has c f.1) 61<f.2))=uR S c l:=by
 unfold mE pB uR mE;simp only[EE];congr 2;funext d;by_cases e:d<N
 ·rw[if_pos e]
 rw[if_neg e,Sz fun a=>e (h _ a)]
def Ju (W:World) (a:Addr):Nat:=match W.cell? a with
 |some (.int _ n)=>n.toNat
 |_=>0
theorem akE{rest:List Oper}(i:B.guard=none)(s x:Operand)(k:B.op=.call {callee:=.builtin .append,args:= #[s,x],argTypes:= #[223,223]})(a:Nat)(v:Value)(l:List (Nat×Nat))(b:Nat×Nat)(m:w.eval s=v)(n:jE a d v l)(g:Nat)(o:w.eval x=.slice (some (H g)) 1 1)(p:d.heap[g]?=some (.cells #[A b.1,A b.2] 258 (0,0)))(C:l.length<1000000)(q:a<=d.heap.size)(h:∀f c,jE a c f (l++[b])->d.grownBy c v.ownBlock->wpList prog y z rest (w.put B.dst f) c):wpList prog y z (B::rest) w d:=
 Ha uQ 2 16 223 258 (.agg #[A 0,A 0]) (by kernel_rfl) underlying223 rfl (by omega) (fun _=>rfl)
  i s x k a v l [b] m n (.slice (some (H g)) 1 1) o (.inr ⟨_,_,rfl,fun j u e=>by
   have :((H g):Addr).add j=(K g j):=by unfold Addr.add;split <;>simp_all
   rw[this];rw[aqm,ash,aqB]at e;exact SA p j u e⟩) (fun u e=>by simp[uQ]at e;rcases e with rfl|rfl<;>rfl) (by simp;omega) (by simp;unfold maxLen;omega) q (fun f c r t=>h f c (by unfold jE;simpa using r) t)
theorem akF{cf}(h:cL d b j l f a c i)(p:Nat)(Q:p<a)(ok:oc a c.P (c.wait p))(aH:jE 0 d cf m)(hrI:∀k,cf.ownBlock=some k->f k)(hl:∀q∈m,q.1<a/\q.2<=(c.P q.1).length):
  O 178 #[Z b,A p,cf] d fun e w'=>(∃u,e=.returned u)/\jb b a j l f i.vl d w' (uR c p m):=by
 have hN:=h.ct.room.hN;have et:=aa (show ∀r,r<a->(c.P r).length<=60 from fun r hi=>by rw[<-h.ct.ops r hi,ap2];exact h.ct.room.hsz r hi);obtain⟨DO,BA,Jv,fD,gU,fs⟩:=bm aH;unfold maxLen at gU;have HRI:=aa hrI;have gE:=aa aH;have pn:=aa fs;have bR:=aa hl;have kO:=aa ok;obtain⟨db,eY,Jr,Fh,cr2⟩:∃db eY,i.aJ=.slice (some (H db)) a eY/\a<=eY/\d.cell? (K b 2)=some (.slice (some (H db)) a eY):=by
  obtain⟨db,eY,I,h1,_,k,_⟩:=h.Nh Q;exact⟨db,eY,I,h1,k⟩
 have qh:(0:Int)<=(p:Int):=aqc _;have kC:(p:Int)<(a:Int):=by omega
 have az:=aa h;subst Jv;clear h aH fs hl ok hrI;go_enter func178,ntmps178;go_upto_block 0 with fail
 go_cut [7] (fun r wc=>∃L C,cL wc b j L f a (mE c p (mC (c.has p) (c.wait p) m)) C/\p6 p j l L f i C d wc)
 case first =>
  go_wp2_with fail
  go_loopw [7] (fun r wr=>∃k:Nat,k<=m.length/\r=A k/\∃L C,cL wr b j L f a (mE c p (mC (c.has p) (c.wait p) (m.take k))) C/\p6 p j l L f i C d wr) (fun r _=>m.length-(intOf r).toNat)
  case atStart=>exact⟨0,apZ _,rfl,l,i,by simp[mE,mC,wb];exact az.o,p6.below (apY _ _)⟩
  case round=>
   obtain⟨k,M,rfl,L,C,B,R⟩:=hrel;obtain⟨x,tD⟩:∃x,x=mC (c.has p) (c.wait p) (m.take k):=⟨_,rfl⟩;rw[<-tD]at B;have GA:oc a c.P x:=by rw[tD];exact oc.Ni _ kO.o fun q aD=>bR.o q (aqE aD)
   have qc:=GA.len hN et.o;by_cases aE:k<m.length
   ·obtain⟨kY,rfl⟩:=pn.o k aE;have hRw:jE 0 wr (.slice (some (H kY)) m.length BA) m:=ca gE.o fun g ag=>R.Nj g (HRI.o g ag) (ap1 gE.o g ag).2
    obtain⟨fz,eP⟩:=jE.cells hRw rfl k aE;obtain⟨y,xY⟩:∃y,y=m[k].1:=⟨_,rfl⟩;obtain⟨z,rI⟩:∃z,z=m[k].2:=⟨_,rfl⟩;rw[<-xY]at fz;rw[<-rI]at eP;have kB:m[k]=(y,z):=by rw[xY,rI]
    obtain⟨Jw,hfP⟩:=bR.o m[k] (ap6 _);rw[<-xY]at Jw;obtain⟨S,cC',a0,bf,b2,a6,a2,bc,a3,bZ,I,_,j1,X,E,cV,hh,aw,cS,iQ,qH,Mk,_,_,Cb,_,_,⟨akG,EF⟩,_⟩:=B.Nk Q;have Cl:=R.aJ;rw[I,Jr]at Cl;simp only[aqn,aqo,aqx,and_true,true_and]at Cl;obtain⟨rfl,rfl⟩:=Cl;have GB:(mE c p x).wait p=x:=by unfold mE;simp only[bF]
    rw[GB]at E cS;have EG:wr.cell? (K a0 y)=some (A (c.has p y)):=Cb y Jw;obtain⟨U,nk⟩:∃U,U=c.has p y:=⟨_,rfl⟩;rw[<-nk]at EG;have yR:jE 0 wr (.slice b2 x.length a6) x:=by
     have :=B.wait p Q;rw[GB]at this;rw[<-cS];exact this
    have SC:=aa (fun W (N:J wr W)=>aaq (some (H a0)) (some (H a2)) (some (H a3)) a a a bf bc bZ (.slice b2 x.length a6) x y z W (c7 yR N));have kS:=aa (show J wr wr.drew from(apY _ wr).drew);have qq:=aa yR;have bJ:=aa B;have yS:=aa R;have Nl:=aa EF;have c9:=aN EF;have jR:(0:Int)<=(k:Int):=aqc _;have dZ:(k:Int)<(m.length:Int):=by omega
    have akH:(0:Int)<=(y:Int):=aqc _;have akI:(y:Int)<(a:Int):=by omega
    have SD:=aa (And.intro I cS);have vj:=aa (show mC (c.has p) (c.wait p) (m.take (k+1))=if U<z/\(y,z)∉x then x++[(y,z)] else x by
     rw[akv aE,<-tD,kB,nk];rfl)
    have SE:=aa qc;clear B R hRw GA qc I aw cS iQ qH EF yR Cb GB kB xY rI nk tD j1;go_upto_region 4 with fail
    go_cut [8] from 25 to 32 (fun t Jx=>t=.bool (decide ((y,z)∈x))/\J wr Jx)
    case first =>
     go_region_law (first |(go_simp;go_at_call 195;refine(SC.o _ kS.o).mono ?_;rintro e w3 ⟨rfl,D⟩;have bB:=aa (Hq.o (mx D));clear D;dsimp only))
     all_goals(go_wp2_with fail;go_meet;exact⟨rfl,bB.o⟩)
    case rest=>
     obtain⟨rfl,D⟩:=hcut;replace fz:=ae D fz;replace eP:=ae D eP;replace X:=ae D X;replace E:=ae D E;replace EG:=ae D EG;have mR:=D.size;have bB:=aa D;clear D;have GC:=aa (yS.o.trans (p6.below bB.o));have oy:=aa (bJ.o.ae bB.o);have ek:=aa (bj Nl.o bB.o);have Hk:=cG ek.o (p*4+1);by_cases ly:U<z
     ·have ai:decide ((U:Int)<(z:Int))=true:=by simp;omega
      have Jy:(U:Int)<(z:Int):=by omega
      by_cases jg:(y,z)∈x
      ·have As:decide ((y,z)∈x)=true:=by simpa using jg
       rw[As];rw[if_neg (fun e=>e.2 jg)]at vj;clear jg;go_wp2_with fail
       go_quiet (fail)
       go_wp2;go_roundw
       case rel=>exact⟨k+1,by omega,by go_num,L,C,by rw[vj.o];exact oy.o.ae (below_drewN (apY _ _) _),GC.o.trans (p6.below (below_drewN (apY _ _) _))⟩
       case measure=>simp[intOf];omega
      have As:decide ((y,z)∈x)=false:=by simpa using jg
      rw[As];rw[if_pos ⟨ly,jg⟩]at vj;clear jg;have kf:=aa (show some S≠(Value.slice b2 x.length a6).ownBlock from fun e=>by
       obtain⟨cur,cr⟩:=bq qq.o e.symm;exact absurd (bK cr Nl.o) (by decide))
      have hU:=aa (c7 qq.o bB.o);have E9:S<wc.heap.size:=by omega
      go_wp2_with fail
      go_quiet (fail)
      have F:J wc (wc.drewN nq):=below_drewN (apY _ _) _;generalize wc.drewN nq=hf at F⊢;replace fz:=ae F fz;replace eP:=ae F eP;replace E:=ae F E;have gv:=World.new_ne hf (K S (p*4+1)) E;have bL:=aa (F.drew.alloc F.drew.size (.cells #[A y,A z] 258));have QI:=aa (show hf.heap[S]?=wc.heap[S]? from F.block S E9);have adR:S<hf.heap.size:=ap3 E9 F.size;have ags:S≠hf.heap.size:=by omega
      clear F;go_wp2_with fail
      go_region_law (first |(refine akx (by rfl) (.tmp 58) (.tmp 63) (by rfl) 0 (.slice b2 x.length a6) x (by rfl) (c7 hU.o bL.o) hf.heap.size 1 (y,z) (by rfl) (SA (bI hf.drew _)) (by have :=SE.o;omega) (apZ _) ?_;intro v4 w4 ha dw fR;have eX:w4.heap[S]?=wc.heap[S]?:=((dw.block S (ap3 E9 bL.o.size) kf.o).trans (bL.o.block S E9));have vC:=SB (eX.trans QI.o.symm) E;have vb:=cG (eX.trans ek.o) (p*4+1);have eA:=aa ha;have j8:=aa dw;have iY:=aa fR;clear ha dw fR eX;obtain⟨a4,j9,r7,vq,lX,pr⟩:=bm eA.o;subst r7;clear vq lX pr))
      all_goals go_wp2
      all_goals go_roundw
      all_goals first
       |(simp[intOf];omega)
       |(
        obtain⟨e5,x',DY,GD⟩:=oy.o.aav Q ((aO.cJ bL.o).trans (aO.r2 j8.o fun k M=>by rw[SD.o.2];exact M)) eA.o (fun k M=>by
         rw[SD.o.2];rcases iY.o with e|e
         ·rw[e]at M;exact .inl M
         exact .inr (ap0 bL.o.size (e k M))) SD.o.1
        rw[aky,ap4]at DY;rw[ap4]at GD;exact⟨k+1,by omega,by go_num,e5,x',by rw[vj.o];exact DY,GC.o.trans GD⟩)
     have ai:decide ((U:Int)<(z:Int))=false:=by simp;omega
     have Jy:¬(U:Int)<(z:Int):=by omega
     rw[if_neg (fun e=>ly e.1)]at vj;go_wp2_with fail
     go_quiet (fail)
     go_wp2;go_roundw
     case rel=>exact⟨k+1,by omega,by go_num,L,C,by rw[vj.o];exact oy.o.ae (below_drewN (apY _ _) _),GC.o.trans (p6.below (below_drewN (apY _ _) _))⟩
     case measure=>simp[intOf];omega
   have dZ:k=m.length:=by omega
   subst dZ;rw[ari]at tD;have bJ:=aa B;have yS:=aa R;clear B R;go_wp2;go_meet
   exact⟨L,C,by rw[<-tD];exact bJ.o,yS.o⟩
 case rest=>
  obtain⟨L,C,lJ,SF⟩:=hcut;obtain⟨x,tD⟩:∃x,x=mC (c.has p) (c.wait p) m:=⟨_,rfl⟩;rw[<-tD]at lJ;have GA:oc a c.P x:=by rw[tD];exact oc.Ni _ kO.o bR.o
  have SE:=aa (GA.len hN et.o);obtain⟨S,cC',a0,bf,b2,a6,a2,bc,a3,bZ,I,_,j1,X,E,cV,hh,aw,cS,iQ,qH,Mk,_,_,_,_,_,_,_⟩:=lJ.Nk Q;have Cl:=SF.aJ;rw[I,Jr]at Cl;simp only[aqn,aqo,aqx,and_true,true_and]at Cl;obtain⟨rfl,rfl⟩:=Cl;have GB:(mE c p x).wait p=x:=by unfold mE;simp only[bF]
  rw[GB]at E cS;have Y:=aa (show C.cp p 0=.slice (some (H a0)) a bf/\C.cp p 1=.slice b2 x.length a6/\C.cp p 2=.slice (some (H a2)) a bc/\C.cp p 3=.slice (some (H a3)) a bZ/\C.aJ=.slice (some (H S)) a cC' from⟨aw,cS,iQ,qH,I⟩);have Jz:=aa GA;have vu:=aa lJ;have akJ:=aa SF;have SC:=aa tD;clear lJ SF GA I aw cS iQ qH GB j1 X E cV hh tD cr2;go_upto_block 2 with fail
  go_cut [9] (fun r wd=>cL wd b j L f a (pB c p x a) C/\p6 p j l L f i C d wd)
  case first =>
   go_wp2_with fail
   go_loopw [9] (fun r wr=>∃k:Nat,k<=a/\r=A k/\cL wr b j L f a (pB c p x k) C/\p6 p j l L f i C d wr) (fun r _=>a-(intOf r).toNat)
   case atStart=>exact⟨0,apZ _,rfl,by rw[akz];exact vu.o,akJ.o⟩
   case round=>
    obtain⟨k,M,rfl,B,R⟩:=hrel;have cr0:wr.cell? (H b)=some (A a):=by simp[World.cell?,B.ct.room.aH]
    have bJ:=aa B;have yS:=aa R;clear B R;by_cases aE:k<a
    ·have Nn:(k:Int)<(a:Int):=by omega
     go_wp2_with fail
     have hs:=aa aE;go_loopw [10] (fun t l0=>∃n w:Nat,n=c.has p k+w/\n<=(c.P k).length/\runN x k n (61-w)=runN x k (c.has p k) 61/\cL l0 b j L f a (oI (pB c p x k) p k n) C/\p6 p j l L f i C d l0) (fun _ W=>61-Ju W (K a0 k))
     case atStart=>exact⟨c.has p k,0,rfl,by rw[<-az.o.ct.ops k aE,ap2];exact az.o.ct.room.hle p k Q aE,rfl,by rw[akA];exact bJ.o,yS.o⟩
     case round=>
      obtain⟨n,w,hnj,SG,fl,B,R⟩:=hrel;obtain⟨gC2,cC2,I,akK,_,j1,X,E,cV,hh⟩:=B.Nh Q;obtain⟨gH,nm,rU,Fi,ax⟩:=B.ct.room.C3 Q;rw[Y.o.2.2.2.2]at I;rw[Y.o.1]at rU X;rw[Y.o.2.1]at E;rw[Y.o.2.2.1]at cV;rw[Y.o.2.2.2.1]at hh;simp only[aqn,aqo,aqx,and_true,true_and]at I rU;obtain⟨rfl,rfl⟩:=I;obtain⟨rfl,rfl⟩:=rU;have AP:=ax k aE;rw[show(oI (pB c p x k) p k n).has p k=n by unfold oI;simp only[bF]]at AP;have aoF:n<=60:=ap0 SG (et.o k aE);obtain⟨aoG,aaw⟩:=bq (B.ct.room.hH p Q) (show(C.cp p 0).ownBlock=some a0 by rw[Y.o.1];rfl);have yR:jE 0 wr (.slice b2 x.length a6) x:=by
       have :=B.wait p Q;rw[Y.o.2.1,show(oI (pB c p x k) p k n).wait p=x by unfold oI pB mE;simp only[bF]]at this;exact this
      have vk:=aa (fun W (N:J wr W)=>show O 195 #[.agg #[.slice (some (H a0)) a bf,.slice b2 x.length a6,.slice (some (H a2)) a bc,.slice (some (H a3)) a bZ],.agg #[A k,A ((n:Int)+1)]] W _ from aaq (some (H a0)) (some (H a2)) (some (H a3)) a a a bf bc bZ (.slice b2 x.length a6) x k (n+1) W (c7 yR N));have kS:=aa (show J wr wr.drew from(apY _ wr).drew);have DF:=aa B;have akL:=aa R;have HXH:=aa aaw;have Np:=aa (And.intro hnj (And.intro SG fl));have jR:(0:Int)<=(k:Int):=aqc _;have oR:(0:Int)<=(n:Int):=aqc _;have aoH:(n:Int)<=60:=by omega
      have QH:IntKind.i64.wrap ((n:Int)+1)=(n:Int)+1:=aqS _ (by omega);clear B R aaw yR hnj SG fl ax;go_upto_region 10 with fail
      go_cut [10] from 75 to 88 (fun t Jx=>t=.bool (decide ((k,n+1)∈x))/\J wr Jx)
      case first =>
       go_region_law (first |(go_simp;go_at_call 195;refine(vk.o _ kS.o).mono ?_;rintro e w3 ⟨rfl,D⟩;have bB:=aa (Hq.o (mx D));clear D;dsimp only))
       all_goals(go_wp2_with fail;go_meet;exact⟨rfl,bB.o⟩)
      case rest=>
       obtain⟨rfl,D⟩:=hcut;replace X:=ae D X;have akM:=ae D AP;have oy:=aa (DF.o.ae D);have GC:=aa (akL.o.trans (p6.below D));have kK:=cG (bj HXH.o D) k;clear D;by_cases jg:(k,n+1)∈x
       ·have As:decide ((k,n+1)∈x)=true:=by simpa using jg
        rw[As];have BX:=aa jg;clear jg As;go_wp2;go_roundw
        case rel=>
         have hle:=(Jz.o.2 _ BX.o).2;obtain⟨h1,h2⟩:=oy.o.akw Q hs.o (n:=n+1) hle Y.o.1;rw[akC]at h1;refine⟨n+1,w+1,by have :=Np.o.1;omega,hle,?_,h1,GC.o.trans h2⟩;rw[<-Np.o.2.2,<-aat BX.o];have Zb:=et.o k hs.o;have :=Np.o.1;simp only at hle;congr 1;omega
        case measure=>
         have m1:Ju wr (K a0 k)=n:=by unfold Ju;rw[AP];simp
         have m2:Ju (wc.setCell (K a0 k) (A ((n:Int)+1))) (K a0 k)=n+1:=by
          unfold Ju;rw[World.cell?_setCell_same' _ _ _ (by rw[akM];rfl)];simp
         rw[m1,m2];omega
       have As:decide ((k,n+1)∈x)=false:=by simpa using jg
       rw[As];have BX:=aa jg;clear jg As;go_wp2;go_roundw
       case rel=>
        refine⟨k+1,by omega,by go_num,?_,GC.o⟩;rw[<-akB,<-Np.o.2.2,Sz BX.o];exact oy.o
       case measure=>simp[intOf];omega
    have Nn:k=a:=by omega
    subst Nn;go_wp2;go_meet
    exact⟨bJ.o,yS.o⟩
  case rest=>
   obtain⟨B,R⟩:=hcut;obtain⟨gC2,cC2,I,akK,_,j1,X,E,cV,hh⟩:=B.Nh Q;obtain⟨gH,nm,rU,Fi,ax⟩:=B.ct.room.C3 Q;rw[Y.o.2.2.2.2]at I;rw[Y.o.1]at rU X;rw[Y.o.2.1]at E;simp only[aqn,aqo,aqx,and_true,true_and]at I rU;obtain⟨rfl,rfl⟩:=I;obtain⟨rfl,rfl⟩:=rU;have yR:jE 0 wc (.slice b2 x.length a6) x:=by
    have :=B.wait p Q;rw[Y.o.2.1,show(pB c p x a).wait p=x by unfold pB mE;simp only[bF]]at this;exact this
   obtain⟨a1',Lo,j4,hT,eJ,gn⟩:=bm yR;unfold maxLen at eJ;simp only[aqn,true_and]at j4;obtain⟨rfl,rfl⟩:=j4;have ZK:=aa (show ∀s,s<a->wc.cell? (K a0 s)=some (A (runN x s (c.has p s) 61:Nat)) from fun s ai=>by
    have :=ax s ai;rw[this];unfold pB;simp only[bF,if_pos ai])
   obtain⟨akG,EF⟩:=bq B.ct.room.fF (show C.aJ.ownBlock=some S by rw[Y.o.2.2.2.2];rfl);have Nl:=aa EF;have c9:=aN EF;have dD:=aa yR;have HWF:=aa gn;have bJ:=aa B;have yS:=aa R;clear B R yR gn EF ax j1 cV hh;go_wp2_with fail
   go_loopw [11,12] (fun v r wr=>∃k:Nat,k<=x.length/\r=A k/\(∃bV bQ,v=.slice bV ((x.take k).filter fun q=>decide (runN x q.1 (c.has p q.1) 61<q.2)).length bQ)/\jE wc.heap.size wr v ((x.take k).filter fun q=>decide (runN x q.1 (c.has p q.1) 61<q.2))/\J wc wr) (fun _ r _=>x.length-(intOf r).toNat)
   case atStart=>exact⟨0,apZ _,rfl,⟨none,0,rfl⟩,aqe _ _ _ _,apY _ _⟩
   case round=>
    obtain⟨k,M,rfl,⟨bV,bQ,rfl⟩,Bq,N⟩:=hrel;by_cases aE:k<x.length
    ·obtain⟨apT,rfl⟩:=HWF.o k aE;obtain⟨fz,eP⟩:=jE.cells dD.o rfl k aE;obtain⟨y,xY⟩:∃y,y=x[k].1:=⟨_,rfl⟩;obtain⟨z,rI⟩:∃z,z=x[k].2:=⟨_,rfl⟩;rw[<-xY]at fz;rw[<-rI]at eP;obtain⟨Jw,hfP⟩:=Jz.o.2 x[k] (ap6 _);rw[<-xY]at Jw;have EG:=ZK.o y Jw;obtain⟨U,nk⟩:∃U,U=runN x y (c.has p y) 61:=⟨_,rfl⟩;rw[<-nk]at EG;replace fz:=ae N fz;replace eP:=ae N eP;replace EG:=ae N EG;replace X:=ae N X;replace E:=ae N E;have nN:(x.take (k+1)).filter (fun q=>decide (runN x q.1 (c.has p q.1) 61<q.2))=(x.take k).filter (fun q=>decide (runN x q.1 (c.has p q.1) 61<q.2))++if U<z then[(y,z)] else[]:=by
      rw[aqp aE,arq];congr 1;rw[show x[k]=(y,z) by rw[xY,rI],nk];by_cases e:runN x y (c.has p y) 61<z
      ·simp[e]
      simp[e]
     have r9:=aa nN;obtain⟨JA,Fo⟩:∃JA,JA=(x.take k).filter (fun q=>decide (runN x q.1 (c.has p q.1) 61<q.2)):=⟨_,rfl⟩;have aoI:JA.length<=244:=by
      rw[Fo];refine ap0 (aqR _ _) ?_;rw[aqg];have :=SE.o;omega
     rw[<-Fo]at Bq r9⊢;clear nN Fo xY rI nk;have JB:=aa Bq;have aK:=aa N;clear Bq N;have jR:(0:Int)<=(k:Int):=aqc _;have dZ:(k:Int)<(x.length:Int):=by omega
     have akH:(0:Int)<=(y:Int):=aqc _;have akI:(y:Int)<(a:Int):=by omega
     by_cases ly:U<z
     ·rw[if_pos ly]at r9;have Jy:(U:Int)<(z:Int):=by omega
      go_wp2_with fail
      go_quiet (fail)
      have F:J wr (wr.drewN nq):=below_drewN (apY _ _) _;generalize wr.drewN nq=hf at F⊢;replace fz:=ae F fz;replace eP:=ae F eP;replace E:=ae F E;have bL:=aa ((aK.o.trans (F.mono aK.o.size)).alloc (ap0 aK.o.size F.size) (.cells #[A y,A z] 258));have Fx:=aa (c7 (c7 JB.o F) ((apY _ hf).alloc (apX _) (.cells #[A y,A z] 258)));clear F;go_wp2_with (at_builtin;(refine akE rfl (.tmp 132) (.tmp 140) rfl wc.heap.size (.slice bV JA.length bQ) JA (y,z) rfl Fx.o hf.heap.size rfl (bI hf _) (by omega) bL.o.size ?_;intro v4 w4 ha dw;have eA:=aa ha;have fx:=aa (bL.o.grown dw bL.o.size (fun k M=>(ap1 Fx.o k M).1));clear ha dw;obtain⟨a4,j9,r7,vq,lX,pr⟩:=bm eA.o;subst r7;clear vq lX pr))
      go_roundw
      case rel=>exact⟨k+1,by omega,by go_num,⟨a4,j9,by rw[r9.o,ap4];rfl⟩,by rw[r9.o];have :=eA.o;rw[ap4]at this;exact this,fx.o⟩
      case measure=>simp[intOf];omega
     rw[if_neg ly,aqB]at r9;have Jy:¬(U:Int)<(z:Int):=by omega
     go_wp2_with fail
     go_quiet (fail)
     go_wp2;go_roundw
     case rel=>exact⟨k+1,by omega,by go_num,⟨bV,bQ,by rw[r9.o]⟩,by rw[r9.o];exact c7 JB.o (below_drewN (apY _ _) _),aK.o.trans ((below_drewN (apY _ _) _).mono aK.o.size)⟩
     case measure=>simp[intOf];omega
    have dZ:k=x.length:=by omega
    subst dZ;rw[ari]at Bq⊢;have JB:=aa Bq;have aK:=aa N;replace X:=ae N X;replace E:=ae N E;have kK:=cG (bj Nl.o N) (p*4+1);clear Bq N;go_wp2;go_end0
    refine⟨⟨_,rfl⟩,?_⟩;obtain⟨e5,x',DY,GD⟩:=bJ.o.aav Q (aO.cJ aK.o) (gT JB.o (apZ _)) (fun k M=>.inr (ap1 JB.o k M).1) Y.o.2.2.2.2;have qE:=SC.o;subst qE;rw[akD c p m a fun q aD=>(Jz.o.2 q aD).1]at DY;exact⟨j,e5,f,x',DY,yS.o.n2.trans GD.n2,fun k M=>⟨M,(yS.o.trans GD).Nj k M (az.o.cx k M)⟩,(yS.o.trans GD).vl⟩
def tE (p:Nat×Nat->Bool) (q:List (Nat×Nat)):List jU:=(List.range (chunks q.length)).map fun j=>⟨false,[],((q.drop (8*j)).take 8).filter p⟩
theorem akN{p:Nat×Nat->Bool}:(tE p m).length=chunks m.length:=by simp[tE]
theorem akO(h:a%8=0):chunks (a+1)=chunks a+1/\8*chunks a=a:=by unfold chunks;omega
theorem akP(h:a%8≠0):chunks (a+1)=chunks a/\0<chunks a/\8*(chunks a-1)<a/\a<8*chunks a:=by unfold chunks;omega
theorem akQ{p:Nat×Nat->Bool}(h:m.length%8=0)(f:Nat×Nat):tE p (m++[f])=tE p m++[⟨false,[],[f].filter p⟩]:=by
 obtain⟨a,b⟩:=akO h;unfold tE;rw[ap4,aq1,a,aqI,aqi];congr 1
 ·refine arx fun j c=> ?_
  have d:=aqX.1 c;rw[asI (by omega),arf (by rw[aqA];omega)]
 simp only[aqj,aqY,b];rw[asI (by omega),List.drop_length,aqK];rfl
theorem akR{p:Nat×Nat->Bool}(h:m.length%8≠0)(f:Nat×Nat):∃b a,tE p m=b++[⟨false,[],a⟩]/\tE p (m++[f])=b++[⟨false,[],a++[f].filter p⟩]/\a.length<=8:=by
 obtain⟨g,k,l,n⟩:=akP h;obtain⟨c,d⟩:∃c,chunks m.length=c+1:=⟨chunks m.length-1,by omega⟩;refine⟨(List.range c).map fun j=>⟨false,[],((m.drop (8*j)).take 8).filter p⟩,((m.drop (8*c)).take 8).filter p,?_,?_,ap0 (aqR _ _) (by rw[aqg];omega)⟩
 ·unfold tE;rw[d,aqI,aqi];rfl
 unfold tE;rw[ap4,aq1,g,d,aqI,aqi];congr 1
 ·refine arx fun j i=> ?_
  have o:=aqX.1 i;rw[asI (by omega),arf (by rw[aqA];omega)]
 simp only[aqj,aqY];rw[asI (by omega),<-arq];have e:((m.drop (8*c))++[f]).take 8=(m.drop (8*c)).take 8++[f]:=by
  rw[aql (by simp;omega),aql (by simp;omega)]
 rw[e]
theorem akS{heard b c:Nat->Nat}:(tE (fun f=>decide (c f.1<f.2)) (l9 heard b a)).take 3=ry a heard b c:=by
 unfold tE ry;rw[<-aru,List.take_range,Nat.min_comm]
theorem SH(heard a:Nat->Nat)(n:Nat):l9 heard a (n+1)=l9 heard a n++(List.range (a n-heard n)).map fun j=>(n,heard n+1+j):=by
 unfold l9;rw[aqI,aqG];simp
theorem aax{heard has:Nat->Nat}{b:Nat}:∀{n:Nat},(∀d,d<n->has d<=b)->(l9 heard has n).length<=n*b
 |0,_=>by simp[l9]
 |n+1,h=>by
  rw[SH,ap4,ap2,aq6];have ih:=aax (heard:=heard) (n:=n) fun d a=>h d (by omega)
  have :=h n (by omega);rw[aqZ];omega
def EH:fm:=⟨⟨false,[],[]⟩,.slice none 0 0,.slice none 0 0⟩
structure mb (B:Nat) (w:World) (v:Value) (eg:List fm):Prop where
 row:yQ B w v eg
 msg:∀m∈eg,m.mB=.slice none 0 0/\m.p.q=false/\m.p.heard=[]/\jE B w m.cf m.p.refs
 jn:eg.Pairwise fun a b=>∀k,a.cf.ownBlock=some k->b.cf.ownBlock≠some k
theorem mb.nil(B:Nat)(w:World):mb B w (.slice none 0 0) []:=⟨aqe _ _ _ _,fun m a=>(by cases a),List.Pairwise.nil⟩
theorem mb.ae{w v}{w':World}(h:mb a w v n)(c:J w w'):mb a w' v n:=⟨c7 h.row c,fun m b=>⟨(h.msg m b).1,(h.msg m b).2.1,(h.msg m b).2.2.1,c7 (h.msg m b).2.2.2 c⟩,h.jn⟩
theorem mb.push{v}(c:mb a k v n)(q:yQ a d h (n++[EH]))(r:k.grownBy d v.ownBlock):mb a d h (n++[EH]):=by
 refine⟨q,fun m j=> ?_,arc.2 ⟨c.jn,asb _ _,fun f y b o i z=> ?_⟩⟩
 ·rcases ap7.1 j with j|j
  ·obtain⟨s,t,u,l⟩:=c.msg m j;refine⟨s,t,u,ca l fun g p=>r.block g (ap1 l g p).2 fun e=> ?_⟩;obtain⟨B,w⟩:=bq l p;obtain⟨C,x⟩:=bq c.row e.symm;exact absurd (bK w x) (by decide)
  rw[ap9]at j;subst j;exact⟨rfl,rfl,rfl,aqe _ _ _ _⟩
 rw[ap9]at o;subst o;intro e;cases e
theorem aay{y:fm}{v:Value}:∀(l:List fm),((l++[y]).flatMap fC).set (l.length*3+2) v=(l.flatMap fC)++[.bool y.p.q,y.mB,v]
 |[]=>rfl
 |x::l=>by
  have ih:=aay (y:=y) (v:=v) l;rw[aqD,aqm,aqm,aqk,show(l.length+1)*3+2=(l.length*3+2)+1+1+1 by omega];show([Value.bool x.p.q,x.mB,x.cf]++(l++[y]).flatMap fC).set _ v=([Value.bool x.p.q,x.mB,x.cf]++l.flatMap fC)++_;simp only[aqD,aqK,arM];rw[ih]
theorem mb.add{w v'}{W:World}{m:fm}{f:Nat×Nat}(h:mb r w (.slice (some (H b)) D C) (n++[m]))(o:D=n.length+1)(q:J w W)(x:jE r d v' (m.p.refs++[f]))(y:W.grownBy d m.cf.ownBlock)(N:iR W m.cf v'):
  mb r (d.setCell (K b (n.length*3+2)) v') (.slice (some (H b)) D C) (n++[⟨⟨false,[],m.p.refs++[f]⟩,.slice none 0 0,v'⟩]):=by
 subst o;obtain⟨P,Q,m3,R⟩:=h.msg m (by simp);have z:w.ownsRow r 251 3 (.slice (some (H b)) (n.length+1) C) (n.length+1) ((n++[m]).flatMap fC):=by
  have :=h.row;unfold yQ at this;rw[ap4]at this;exact this
 obtain⟨cur,s⟩:=bq z (g:=b) rfl;have B:=aN s;have S:m.cf.ownBlock≠some b:=fun e=>by
  obtain⟨E,j⟩:=bq R e;exact absurd (bK s j) (by decide)
 have F:d.heap[b]?=w.heap[b]?:=(y.block b (ap3 B q.size) fun e=>S e.symm).trans (q.block b B);have U:d.ownsRow r 251 3 (.slice (some (H b)) (n.length+1) C) (n.length+1) ((n++[m]).flatMap fC):=ca z fun g u=>by
  have e:b=g:=by simpa[Value.ownBlock]using u
  subst e;exact F
 have I:=Gy U (n.length*3+2) v';rw[aay,P,Q]at I;have L:∀a∈n,∀k,a.cf.ownBlock=some k->d.heap[k]?=w.heap[k]?/\k<w.heap.size/\k≠b:=fun a i k l=>by
  have t:=(h.msg a (by simp[i])).2.2.2;have v:=(ap1 t k l).2;have X:=(arc.1 h.jn).2.2 a i m (by simp) k l;refine⟨(y.block k (ap3 v q.size) fun e=>X e.symm).trans (q.block k v),v,fun e=> ?_⟩;subst e;obtain⟨E,j⟩:=bq t l;exact absurd (bK s j) (by decide)
 have Y:v'.ownBlock≠some b:=fun e=>by
  obtain⟨E,j⟩:=bq x e;rw[F]at j;exact absurd (bK s j) (by decide)
 refine⟨?_,fun a i=> ?_,arc.2 ⟨(arc.1 h.jn).1,asb _ _,fun a i c M k l=> ?_⟩⟩
 ·unfold yQ;rw[ap4,aqG];exact I
 ·rcases ap7.1 i with i|i
  ·obtain⟨h1,h2,al,t⟩:=h.msg a (by simp[i]);refine⟨h1,h2,al,ca t fun g u=> ?_⟩;obtain⟨aj,_,cS⟩:=L a i g u;rw[dy cS];exact aj
  rw[ap9]at i;subst i;exact⟨rfl,rfl,rfl,iV x Y v'⟩
 rw[ap9]at M;subst M;intro e;obtain⟨_,aw,_⟩:=L a i k l;rcases N with o|o
 ·have e':m.cf.ownBlock=some k:=o▸e;exact(arc.1 h.jn).2.2 a i m (by simp) k l e'
 have :=o k e;have :=q.size;omega
theorem akU{rest:List Oper}(k:B.guard=none)(s x:Operand)(m:B.op=.call {callee:=.builtin .append,args:= #[s,x],argTypes:= #[223,223]})(a:Nat)(v:Value)(l:List (Nat×Nat))(b:Nat×Nat)(n:w.eval s=v)(o:jE a d v l)(g:Nat)(p:w.eval x=.slice (some (H g)) 1 1)(q:d.heap[g]?=some (.cells #[A b.1,A b.2] 258 (0,0)))(Q:l.length<1000000)(r:a<=d.heap.size)(h:∀c e,jE a e c (l++[b])->d.grownBy e v.ownBlock->iR d v c->wpList prog y z rest (w.put B.dst c) e):wpList prog y z (B::rest) w d:=by
 refine wpList_plain k fun _ t=> ?_
 obtain⟨i,C,D,E,F⟩:=info_parts (show(prog.info? 258).map (fun i=>(i.zero,i.size,i.bytes))=some (some (.agg #[A 0,A 0]),2,16) by kernel_rfl);obtain⟨c,e,I,L,M,N⟩:=Oq (P:=prog) d a 223 B.type 258 i _ 2 16 underlying223 C D E F rfl (by omega) v l.length (l.flatMap uQ) o (H g) 1 1 (uQ b) rfl
  (fun j u f=>by
   have :((H g):Addr).add j=(K g j):=by unfold Addr.add;split <;>simp_all
   rw[this];exact SA q j u f) (fun u f=>by simp[uQ]at f;rcases f with rfl|rfl<;>rfl) (by unfold maxLen;omega) (by omega) r
 unfold Oper.wp execOp;simp only[m,resolve,invoke,builtin,aqt,aq4,aqz,arQ,aqj,aqY,n,p,I];exact t _ _ (h c e (by unfold jE;simpa using L) M N)
theorem akV{c:TypeId}{g:List Value}(h:d.ownsRow D c b (.slice (some (H e)) r C) r g)(i:a<=r):d.ownsRow D c b (.slice (some (H e)) a C) a (g.take (a*b)):=by
 refine⟨by rw[aqg,h.1];exact arH (aqV _ i),?_⟩;rcases h.2 with⟨f,_⟩|⟨p,q,j,f,k,l,s,m,n,o⟩
 ·simp at f
 simp only[aqn,aqo,aqx,and_true,true_and]at f;obtain⟨rfl,rfl⟩:=f;refine .inr ⟨e,C,j,rfl,k,l,by omega,m,n,?_⟩;rw[<-o,arG,arH (aqV _ i)]
theorem aaz:∀(l:List fm) (m:Nat),(l.flatMap fC).take (m*3)=(l.take m).flatMap fC
 |[],m=>by simp
 |x::l,0=>by simp
 |x::l,m+1=>by
  have ih:=aaz l m;rw[aqm,List.take_succ_cons,aqm,show(m+1)*3=(fC x).length+m*3 by simp[fC];omega,List.take_length_add_append,ih]
theorem mb.mono{w v}{B':Nat}(h:mb a w v n)(c:B'<=a):mb B' w v n:=⟨gT h.row c,fun m b=>⟨(h.msg m b).1,(h.msg m b).2.1,(h.msg m b).2.2.1,gT (h.msg m b).2.2.2 c⟩,h.jn⟩
theorem mb.take{B w b}{g c:Nat}(h:mb B w (.slice (some (H g)) b.length c) b){m:Nat}(d:m<=b.length):mb B w (.slice (some (H g)) m c) (b.take m):=by
 refine⟨?_,fun a e=>h.msg a (aqE e),h.jn.sublist (List.take_sublist _ _)⟩;unfold yQ;rw[aqg,arH d,<-aaz];exact akV h.row d
def SI (B:Nat) (W wr:World) (v n:Value) (p:Nat×Nat->Bool) (q:List (Nat×Nat)):Prop:=∃b c a,v=.slice b (List.length (α:=fm) a) c/\n=A (q.length:Nat)/\mb B wr v a/\a.map fm.p=tE p q/\Below B W wr
theorem akW{hl}(z:cL d e j l s a c i)(w:Nat)(hc:w<a)(ax:kH 0 d h hl)(hlen:hl.length=a)(ab:∀n∈hl,n<=1000):
  O 179 #[Z e,A w,h] d fun B w'=>∃v M,B=.returned v/\mb d.heap.size w' v M/\M.map fm.p=ry a (fun x=>hl.getD x 0) (c.has w) (c.lost w)/\J d w':=by
 have hN:=z.ct.room.hN;have et:=aa (show ∀x,x<a->c.has w x<=60 from fun x hi=>ap0 (z.ct.room.hle w x hc hi) (z.ct.room.hsz x hi));obtain⟨db,eY,a0,bf,b2,a6,S,U,a3,bZ,aj,Fh,j1,dJ,dx,cV,hh,aw,cS,iQ,qH,Mk,MY,hh3,Cb,aaA,_,_,_⟩:=z.Nk hc;obtain⟨W,mM⟩:∃W,W=(c.wait w).length:=⟨_,rfl⟩;rw[<-mM]at dx;have jx:d.cell? (H e)=some (A a):=by simp[World.cell?,z.ct.room.aH]
 unfold kH at ax;rw[hlen]at ax;obtain⟨apU,lA,EI,hh4,hh5,Q6⟩:=bm ax;obtain⟨eR,rfl⟩:=Q6 w hc;subst EI;have zm:=aa (show ∀r,r<a->d.cell? (K eR r)=some (A (hl.getD r 0:Nat)) from fun r ai=>by
  have :=ir (f:=pw) (k:=1) (fun _=>rfl) ax (by rw[hlen]) r (by omega) 0 (by omega);simp only[pw,arn,aqW,ard]at this;rw[this,asc,aq2 (by omega)];rfl)
 have Nq:=aa (show ∀r,r<a->hl.getD r 0<=1000 from fun r ai=>by
  rw[asc,aq2 (by omega)];exact ab _ (ap6 _))
 obtain⟨heard,Au⟩:∃heard:Nat->Nat,heard=fun x=>hl.getD x 0:=⟨_,rfl⟩
 rw[<-Au];have zm:=aa (show ∀r,r<a->d.cell? (K eR r)=some (A (heard r:Nat)) from fun r ai=>by rw[Au];exact zm.o r ai);have Nq:=aa (show ∀r,r<a->heard r<=1000 from fun r ai=>by rw[Au];exact Nq.o r ai);have QK:=aa Cb;have pP:=aa aaA;have qh:(0:Int)<=(w:Int):=aqc _;have kC:(w:Int)<(a:Int):=by omega
 obtain⟨p,ah⟩:∃p:Nat×Nat->Bool,p=fun f=>decide (c.lost w f.1<f.2):=⟨_,rfl⟩
 have SJ:=aa ah;obtain⟨has,iJ⟩:∃has:Nat->Nat,has=c.has w:=⟨_,rfl⟩;have Nr:=aa iJ;have Q:=aa (show J d (d.alloc (.cells #[.slice (some (H a0)) a bf,.slice b2 W a6,.slice (some (H S)) a U,.slice (some (H a3)) a bZ] 225)) from(apY _ d).alloc (apX _) _);obtain⟨D,rJ⟩:∃D,D=d.alloc (.cells #[.slice (some (H a0)) a bf,.slice b2 W a6,.slice (some (H S)) a U,.slice (some (H a3)) a bZ] 225):=⟨_,rfl⟩;have ow:=aa (show D.heap[d.heap.size]?=some (.cells #[.slice (some (H a0)) a bf,.slice b2 W a6,.slice (some (H S)) a U,.slice (some (H a3)) a bZ] 225 (0,0)) by rw[rJ];exact bI d _);have Ns:=aa (show D.heap.size=d.heap.size+1 by rw[rJ];simp);rw[<-rJ]at Q;have aaB:=fun n:Nat=>(show n<100000->IntKind.i64.wrap ((n:Int).tmod 8)=((n%8:Nat):Int) from fun hn=>by
  rw[aqS _ (by rw[Int.tmod_eq_emod_of_nonneg (by omega)];omega)];rw[Int.tmod_eq_emod_of_nonneg (by omega)];omega)
 have Ly:=aa aaB;clear z ax ab Cb aaA aj aw cS iQ qH Q6 Au ah iJ aaB mM;go_enter func179,ntmps179;go_upto_block 0 with fail
 rw[<-rJ];go_cut [7,9,10] (fun v n x wc=>SI D.heap.size D wc v n p (l9 heard has a))
 case first =>
  go_wp2_with fail
  go_loopw [7,9,10] (fun v n x wr=>∃r:Nat,r<=a/\x=A r/\SI D.heap.size D wr v n p (l9 heard has r)) (fun _ _ x _=>a-(intOf x).toNat)
  case atStart=>exact⟨0,apZ _,rfl,none,0,[],rfl,by simp[l9],mb.nil _ _,by simp[l9,tE,chunks],apY _ _⟩
  case round=>
   obtain⟨r,ai,rfl,bV,R,M,rfl,rfl,E,F,I⟩:=hrel;have GF:J d wr:=Q.o.trans (I.mono Q.o.size);have X:wr.heap[d.heap.size]?=some (.cells #[.slice (some (H a0)) a bf,.slice b2 W a6,.slice (some (H S)) a U,.slice (some (H a3)) a bZ] 225 (0,0)):=(I.block _ (by rw[Ns.o];omega)).trans ow.o;have q0r:=ae GF jx;by_cases aE:r<a
   ·have rO:=ae GF (zm.o r aE);have hdb:=Nq.o r aE;obtain⟨aH,SK⟩:∃aH,aH=heard r:=⟨_,rfl⟩;rw[<-SK]at rO hdb;have Mx:(0:Int)<=(r:Int):=aqc _;have My:(r:Int)<(a:Int):=by omega
    have L:=aa E;have N:=aa F;have dv:=aa I;have Nt:=aa SK;clear E F I X SK;go_wp2_with fail
    go_loopw [7,9,11] (fun v n C l0=>∃t:Nat,t<=has r-heard r/\C=A ((aH:Int)+1+(t:Int))/\SI D.heap.size D l0 v n p (l9 heard has r++(List.range t).map fun t=>(r,heard r+1+t))) (fun _ _ C _=>has r+1-(intOf C).toNat)
    case atStart=>exact⟨0,apZ _,by simp,bV,R,M,rfl,by simp,L.o,by simpa using N.o,dv.o⟩
    case round=>
     obtain⟨t,au,rfl,SL,SM,JC,rfl,rfl,yn,SN,Nu⟩:=hrel;obtain⟨q,ak⟩:∃q,q=l9 heard has r++(List.range t).map fun t=>(r,heard r+1+t):=⟨_,rfl⟩
     rw[<-ak]at SN⊢;have BP:q.length<=300:=by
      have h1:=aax (heard:=heard) (has:=has) (b:=60) (n:=r) fun ch cK=>by rw[Nr.o];exact et.o ch (by omega)
      have h2:=et.o r aE;rw[<-Nr.o]at h2;have al:r*60<=180:=by omega
      rw[ak,ap4,ap2,aq6];omega
     have aaC:J d wr:=Q.o.trans (Nu.mono Q.o.size);have X:wr.heap[d.heap.size]?=some (.cells #[.slice (some (H a0)) a bf,.slice b2 W a6,.slice (some (H S)) a U,.slice (some (H a3)) a bZ] 225 (0,0)):=(Nu.block _ (by rw[Ns.o];omega)).trans ow.o;have cy:wr.cell? (V d 0)=some (.slice (some (H a0)) a bf):=by simp[World.cell?,X]
     have bU:wr.cell? (V d 2)=some (.slice (some (H S)) a U):=by simp[World.cell?,X]
     have hHd:=ae aaC (QK.o r aE);have SO:=ae aaC (pP.o r aE);obtain⟨ad,nk⟩:∃ad,ad=c.has w r:=⟨_,rfl⟩;obtain⟨v8,o8⟩:∃v8,v8=c.lost w r:=⟨_,rfl⟩;rw[<-nk]at hHd;rw[<-o8]at SO;have Zb:ad<=60:=by rw[nk];exact et.o r aE
     have wu:=aa (show has r=ad by rw[Nr.o,nk]);have lC:=aa o8;have Aw:=aa yn;have Nv:=aa SN;have Nw:=aa Nu;have kM:=aa ak;have vK:=aa au;obtain⟨C,vr⟩:∃C:Nat,C=aH+1+t:=⟨_,rfl⟩;have zb:(aH:Int)+1+(t:Int)=(C:Int):=by omega
     rw[zb];have wC:=aa vr;clear yn SN Nu ak X nk o8 au zb vr;by_cases hle:C<=ad
     ·have akX:(C:Int)<=(ad:Int):=by omega
      go_upto_if 44 with fail
      go_cut [7] from 44 to 48 (fun v Cw=>∃bV R init m,v=.slice bV (List.length (α:=fm) init+1) R/\mb D.heap.size Cw v (init++[m])/\J D Cw/\init.map fm.p++[⟨false,[],m.p.refs++[(r,C)].filter p⟩]=tE p (q++[(r,C)])/\m.p.refs.length<=300/\init.length<=300)
      case first =>
       have j0:JC.length<=300:=by
        have :=congrArg List.length Nv.o;rw[ap2,akN]at this;rw[this];unfold chunks;omega
       by_cases Gg:q.length%8=0
       ·have hb8:((q.length:Int)%8==0)=true:=by simp;omega
        have bL:=aa (show J D (wr.alloc (.cells #[.bool false,.slice none 0 0,.slice none 0 0] 251)) from Nw.o.alloc Nw.o.size _);have FO:=aa (Aw.o.ae ((apY _ wr).alloc (apX _) (.cells #[.bool false,.slice none 0 0,.slice none 0 0] 251)));go_wp2_with (at_builtin;(refine Js rfl (.tmp 45) (.tmp 47) rfl D.heap.size (.slice SL JC.length SM) JC [EH] rfl FO.o.row (.slice (some (V wr 0)) 1 1) rfl (Sy (m:=EH) rfl (bI wr _)) (fun u hu=>by simp[EH,fC]at hu;rcases hu with rfl|rfl<;>rfl) (by simp;omega) bL.o.size ?_;intro v4 w4 ha Y;have Cx:=aa (FO.o.push ha Y);have fx:=aa (bL.o.grown Y bL.o.size (fun k hk=>(ap1 FO.o.row k hk).1));obtain⟨a4,j9,r7,vq,lX,pr⟩:=bm ha;rw[ap4]at r7;subst r7;clear ha Y vq lX pr))
        all_goals go_meet
        all_goals exact⟨a4,j9,JC,EH,rfl,Cx.o,fx.o,by rw[Nv.o,akQ Gg];rfl,by simp[EH],j0⟩
       have hb8:((q.length:Int)%8==0)=false:=by simp;omega
       obtain⟨ms,m,nx,oE,mw⟩:=akR (p:=p) Gg (r,C);have F:=Nv.o;rw[nx]at F;obtain⟨init,y,zD,Cd,Cy⟩:=List.map_eq_append_iff.1 F;obtain⟨m',eB,uM⟩:∃m',y=[m']/\m'.p=⟨false,[],m⟩:=by
        match y,Cy with
        |[m'],Cy=>exact⟨m',rfl,by simpa using Cy⟩
        |[],Cy=>simp at Cy
        |m1::m2::y,Cy=>simp at Cy
       subst eB zD;have cW:=aa (And.intro oE (And.intro Cd uM));have Qp:=aa (show m.length<=300 by omega);clear nx oE mw F Cd Cy uM;rw[ap4]at j0⊢;go_wp2;go_meet
       refine⟨SL,SM,init,m',by simp,by simpa using Aw.o,Nw.o,?_,?_,?_⟩
       ·rw[cW.o.1,cW.o.2.1,cW.o.2.2]
       ·rw[cW.o.2.2];exact Qp.o
       simp at j0;omega
      case rest=>
       obtain⟨bV,R,init,m,rfl,E,I,F,zC,jf⟩:=hcut;have akY:J d wc:=Q.o.trans (I.mono Q.o.size);have X:wc.heap[d.heap.size]?=some (.cells #[.slice (some (H a0)) a bf,.slice b2 W a6,.slice (some (H S)) a U,.slice (some (H a3)) a bZ] 225 (0,0)):=(I.block _ (by rw[Ns.o];omega)).trans ow.o;replace bU:wc.cell? (V d 2)=some (.slice (some (H S)) a U):=by simp[World.cell?,X]
       replace SO:=ae akY (pP.o r aE);rw[<-lC.o]at SO;have fe:=E.row;unfold yQ at fe;rw[ap4]at fe;obtain⟨lT,vc,wU,j4,iS,iD⟩:=bm fe;unfold maxLen at iS;simp only[aqn,true_and,aq1]at wU;obtain⟨rfl,rfl⟩:=wU;obtain⟨P,rfl⟩:=iD init.length (by simp);have fI:=ir (f:=fC) (k:=3) (fun _=>rfl) fe (by simp) init.length (by simp) 2 (by omega);rw[show(init++[m])[init.length]'(by simp)=m by simp]at fI;have SP:wc.cell? (K P (init.length*3+2))=some m.cf:=fI;obtain⟨ct,rc,Jv,_,_,_⟩:=bm (E.msg m (by simp)).2.2.2;rw[Jv]at SP;obtain⟨cur,cr⟩:=bq fe (g:=P) rfl;have zW:=aa cr;have Nx:=aN cr;have L:=aa E;have dv:=aa I;have N:=aa F;have Ny:=aa Jv;have T8:(init.length:Int)<=300:=by omega
       have FW:l9 heard has r++(List.range (t+1)).map (fun t=>(r,heard r+1+t))=q++[(r,C)]:=by
        rw[aqI,aqi,<-aqs,<-kM.o,wC.o,Nt.o];rfl
       have Nz:=aa FW;have HJ2:=aa (show t+1<=has r-heard r by
        have :=wC.o;have :=wu.o;have :=Nt.o;omega)
       clear E I F Jv fe fI X cr iD FW;by_cases o8:v8<C
       ·have akZ:(v8:Int)<(C:Int):=by omega
        have aD:[(r,C)].filter p=[(r,C)]:=by
         rw[SJ.o];simp only[ar3,List.filter_nil];rw[<-lC.o];simp[o8]
        rw[aD]at N;clear aD;have bL:=aa (show J D (wc.alloc (.cells #[A r,A C] 258)) from dv.o.alloc dv.o.size _);have NA:=aa (show J wc (wc.alloc (.cells #[A r,A C] 258)) from(apY _ wc).alloc (apX _) _);have yC:=aa (show jE D.heap.size (wc.alloc (.cells #[A r,A C] 258)) (.slice ct m.p.refs.length rc) m.p.refs by rw[<-Ny.o];exact c7 (L.o.msg m (by simp)).2.2.2 NA.o);have kf:=aa (show some P≠(Value.slice ct m.p.refs.length rc).ownBlock from fun B=>by
         rw[<-Ny.o]at B;obtain⟨hv,oH⟩:=bq (L.o.msg m (by simp)).2.2.2 B.symm;exact absurd (bK oH zW.o) (by decide))
        go_wp2_with (at_builtin;(refine akU rfl (.tmp 67) (.tmp 71) rfl D.heap.size (.slice ct m.p.refs.length rc) m.p.refs (r,C) rfl yC.o wc.heap.size rfl (bI wc _) (by omega) bL.o.size ?_;intro v4 w4 ha Y fR;have eX:w4.heap[P]?=wc.heap[P]?:=((Y.block P (ap3 Nx NA.o.size) kf.o).trans (NA.o.block P Nx));replace SP:=SB eX SP;have vb:=cG (eX.trans zW.o) (init.length*3+2);have fx:=aa (bL.o.grown Y bL.o.size (fun k hk=>(ap1 yC.o k hk).1));have eA:=aa ha;have j8:=aa Y;have iY:=aa fR;clear ha Y fR eX;obtain⟨a4,j9,r7,vq,lX,pr⟩:=bm eA.o;subst r7;clear vq lX pr))
        go_roundw
        case rel=>
         have aaD:=L.o.add rfl NA.o eA.o (by rw[Ny.o];exact j8.o) (by rw[Ny.o];exact iY.o);rw[ap4]at aaD;refine⟨t+1,HJ2.o,by have :=wC.o;congr 1;omega,some (H P),R,_,?_,?_,aaD,?_,fx.o.setCell (ap1 L.o.row P rfl).1 _⟩
         ·rw[ap4];rfl
         ·rw[Nz.o,ap4];rfl
         rw[Nz.o,<-N.o,aqi];rfl
        case measure=>have :=wu.o;simp[intOf];omega
       have akZ:¬(v8:Int)<(C:Int):=by omega
       have aD:[(r,C)].filter p=[]:=by
        rw[SJ.o];simp only[ar3,List.filter_nil];rw[<-lC.o];simp[o8]
       rw[aD,aqB]at N;clear aD;go_wp2;go_roundw
       case rel=>
        obtain⟨m1,m2,m3,m4⟩:=L.o.msg m (by simp);refine⟨t+1,HJ2.o,by have :=wC.o;congr 1;omega,some (H P),R,init++[m],?_,?_,L.o,?_,dv.o⟩
        ·rw[ap4];rfl
        ·rw[Nz.o,ap4];rfl
        rw[Nz.o,<-N.o,aqi,List.map_singleton];congr 2;rw[<-m2,<-m3]
       case measure=>have :=wu.o;simp[intOf];omega
     have akX:¬(C:Int)<=(ad:Int):=by omega
     go_wp2;go_roundw
     case rel=>
      refine⟨r+1,by omega,by go_num,SL,SM,JC,rfl,?_,Aw.o,?_,Nw.o⟩
      ·have xx:t=has r-heard r:=by have :=vK.o;have :=wC.o;have :=wu.o;have :=Nt.o;omega
       rw[SH,<-xx,<-kM.o]
      have xx:t=has r-heard r:=by have :=vK.o;have :=wC.o;have :=wu.o;have :=Nt.o;omega
      rw[SH,<-xx,<-kM.o];exact Nv.o
     case measure=>simp[intOf];omega
   have hdN:r=a:=by omega
   subst hdN;have L:=aa E;have N:=aa F;have dv:=aa I;clear E F I;go_wp2;go_meet
   exact⟨bV,R,M,rfl,rfl,L.o,N.o,dv.o⟩
 case rest=>
  obtain⟨bV,R,M,rfl,rfl,E,F,I⟩:=hcut;have GF:J d wc:=Q.o.trans (I.mono Q.o.size);have ue:=aa GF;have N:=aa (show(M.map fm.p).take 3=ry a heard (c.has w) (c.lost w) by rw[F,SJ.o,Nr.o,akS]);have HWZ:=aa (show d.heap.size<=D.heap.size by rw[Ns.o];omega);by_cases al:3<M.length
  ·have PD:(3:Int)<(M.length:Int):=by omega
   obtain⟨lT,vc,wU,j4,iS,iD⟩:=bm E.row;unfold maxLen at iS;simp only[aqn,true_and]at wU;obtain⟨rfl,rfl⟩:=wU;obtain⟨P,rfl⟩:=iD 0 (by omega);have L:=aa (E.take (m:=3) (by omega));clear E F I GF iD;go_wp2;go_ret
   exact⟨_,_,rfl,L.o.mono HWZ.o,by rw[aru];exact N.o,ue.o⟩
  have PD:¬(3:Int)<(M.length:Int):=by omega
  have L:=aa E;clear E F I GF;go_wp2;go_ret
  refine⟨.slice bV M.length R,rfl,M,L.o.mono HWZ.o,?_,ue.o⟩;rw[<-N.o,aql (by rw[ap2];omega)]
def xy (N:Nat) (P:Nat->List bH) (m:jU):Prop:=(m.q=true->m.heard.length=N/\∀n∈m.heard,n<=1000)/\∀f∈m.refs,f.1<N/\f.2<=(P f.1).length
theorem aaE(a:Bool):∀(b:List jU) (l:List jU) (u:jU),ng a l (b++[u])=if a=true\/12<=(ng a l b).length then ng a l b else ng a l b++[u]
 |[],l,u=>rfl
 |v::b,l,u=>by
  rw[aqD];simp only[ng];exact aaE a b _ u
theorem ak0{sh:Bool}{l us:List jU}{i:Nat}(a:i<us.length):ng sh l (us.take (i+1))=if sh=true\/12<=(ng sh l (us.take i)).length then ng sh l (us.take i) else ng sh l (us.take i)++[us[i]]:=by
 rw[aqp a,aaE]
theorem aaF(b:Bool):∀(a l:List jU),l.length<=12->(ng b l a).length<=12
 |[],l,h=>h
 |u::a,l,h=>by
  simp only[ng];refine aaF b a _ ?_;split
  ·exact h
  rename_i e
  rw[ap4,aq1];omega
theorem ak1(S:bP)(c d:Nat)(a b:List jU):fU (fU S c d a) c d b=fU S c d b:=by
 unfold fU;simp only[bF,EE]
theorem ak2(S:bP)(c d:Nat):fU S c d (S.ms c d)=S:=by
 unfold fU;rw[wb,wb]
def uX (S:bP) (c d:Nat) (l:Nat->Nat) (k:Nat):bP:={S with known:=upd S.known c (upd (S.known c) d fun i=>if i<k then max (S.known c d i) (l i) else S.known c d i)}
theorem ak3(S:bP)(c d:Nat)(l:Nat->Nat):uX S c d l 0=S:=by
 unfold uX;have e:(fun i=>if i<0 then max (S.known c d i) (l i) else S.known c d i)=S.known c d:=by
  funext i;rw[if_neg (aq7 _)]
 rw[e,wb,wb]
theorem ak4(S:bP)(c d:Nat)(l:Nat->Nat)(k:Nat)(h:S.known c d k<l k):Jt (uX S c d l k) c d k (l k)=uX S c d l (k+1):=by
 unfold Jt uX;simp only[bF,EE];congr 3;funext i;by_cases e:i=k
 ·subst e;rw[bF,if_pos (by omega)];omega
 rw[b6 _ _ e];by_cases a:i<k
 ·rw[if_pos a,if_pos (by omega)]
 rw[if_neg a,if_neg (by omega)]
theorem ak5(S:bP)(c d:Nat)(l:Nat->Nat)(k:Nat)(h:¬S.known c d k<l k):uX S c d l k=uX S c d l (k+1):=by
 unfold uX;congr 3;funext i;by_cases e:i=k
 ·subst e;rw[if_neg (by omega),if_pos (by omega)];omega
 by_cases a:i<k
 ·rw[if_pos a,if_pos (by omega)]
 rw[if_neg a,if_neg (by omega)]
theorem ak6(S:bP)(c d:Nat)(l:Nat->Nat)(k:Nat):(uX S c d l k).known c d k=S.known c d k:=by
 unfold uX;simp only[bF];rw[if_neg (Nat.lt_irrefl _)]
theorem ak7(S:bP)(c d:Nat)(l:Nat->Nat)(N:Nat)(h:∀i,N<=i->l i=0):uX S c d l N=wa S c d l:=by
 unfold uX wa;congr 3;funext i;by_cases e:i<N
 ·rw[if_pos e]
 rw[if_neg e,h i (by omega)];omega
def oJ (r N:Nat) (F L I c d a:Nat->Prop) (f:Nat->Value) (w b:World) (g:bP) (e:ep):Prop:=cL b r c d a N g e/\c6 (sv F L I) (sv c d a) w b/\(∀k,I k->a k/\b.heap[k]?=w.heap[k]?)/\e.vl=f
theorem oJ.to(h:oJ a b f j l s u v q d k c i):jb a b f j l q d k c:=⟨s,u,v,i,h⟩
theorem oJ.trans{r N F L I d e f g h i j w l m q n o p}(a:oJ r N F L I d e f j w l q o)(b:oJ r N d e f g h i o.vl l m n p):oJ r N F L I g h i j w m n p:=
 ⟨b.1,a.2.1.trans b.2.1,fun k c=>⟨(b.2.2.1 k (a.2.2.1 k c).1).1,(b.2.2.1 k (a.2.2.1 k c).1).2.trans (a.2.2.1 k c).2⟩,b.2.2.2.trans a.2.2.2⟩
theorem oJ.below(e:oJ a b f j l s u v q d k c i)(h:J k E):oJ a b f j l s u v q d E c i:=
 ⟨e.1.ae h,e.2.1.after h,fun g m=>⟨(e.2.2.1 g m).1,(h.block g (e.1.cx g (e.2.2.1 g m).1)).trans (e.2.2.1 g m).2⟩,e.2.2.2⟩
theorem oJ.know{o}(g:oJ C a f j l s u v q d k c o){i n:Nat}(p:b<a)(t:e<a)(w:o.xo b e=.slice (some (H r)) a D):oJ C a f j l s u v q d (k.setCell (K r i) (A n)) (Jt c b e i n) o:=by
 obtain⟨y,z⟩:=g.1.aku p t (i:=i) (n:=n) w;have B:(o.xo b e).ownBlock=some r:=by rw[w];rfl
 refine g.trans ⟨y,z,fun h x=>⟨x,dy fun m=> ?_⟩,rfl⟩;subst m;exact g.1.ob h x (g.1.qj b e p t h B)
theorem oJ.Ng{W}(m:oJ C e l s u j f v q d k c i)(M:b<e)(N:a<e){y:fm}(P:J k E)(Q:aO (fun g=>eU (i.fv b a)=some g) E W)(R:h9 W 251 3 h ((i.im b a).length+1) ((i.im b a++[y]).flatMap fC))(S:∀g,eU h=some g->eU (i.fv b a)=some g\/E.heap.size<=g)(U:qO E y)(x:∀g,y.mB.ownBlock=some g->¬j g/\¬f g/\d.heap.size<=g)(z:∀g,y.cf.ownBlock=some g->¬j g/\¬f g/\d.heap.size<=g)(X:i.vl b=.slice (some (H r)) e D):
  ∃w B,oJ C e l s u j w B q d (W.setCell (K r (a*2+1)) h) (fU c b a (c.ms b a++[y.p])) (sr i b a h (i.im b a++[y]))/\aO f k (W.setCell (K r (a*2+1)) h)/\∀g,w g->f g\/k.heap.size<=g:=by
 obtain⟨w,B,Y,t,F,cD,oC⟩:=m.1.aal M N P Q R S U (fun g o=>.inr ⟨(x g o).1,(x g o).2.1⟩) (fun g o=>.inr ⟨(z g o).1,(z g o).2.1⟩) X;refine⟨w,B,⟨Y,⟨t.os.trans m.2.1.os,t.tape.trans m.2.1.tape,t.output.trans m.2.1.output,ap0 m.2.1.size t.size,fun g o I=> ?_,?_⟩,fun g o=>⟨cD g (m.2.2.1 g o).1,(t.other g (m.1.cx g (m.2.2.1 g o).1) (m.1.ob g (m.2.2.1 g o).1)).trans (m.2.2.1 g o).2⟩,m.2.2.2⟩,t,F⟩
 ·rw[t.other g (ap3 o m.2.1.size) fun n=> ?_]
  ·exact m.2.1.other g o I
  rcases m.2.1.sub g (.inr (.inl n)) with L|L
  ·exact I L
  omega
 rintro g (n|n|n)
 ·exact m.2.1.sub g (.inl n)
 ·rcases F g n with n|n
  ·exact m.2.1.sub g (.inr (.inl n))
  exact .inr (ap0 m.2.1.size n)
 rcases oC g n with n|n|n
 ·exact m.2.1.sub g (.inr (.inr n))
 ·exact .inr (x g n).2.2
 exact .inr (z g n).2.2
theorem mb.stay(c:mb a d h n)(f:∀b,h.ownBlock=some b->k.heap[b]?=d.heap[b]?)(g:∀m∈n,∀b,m.cf.ownBlock=some b->k.heap[b]?=d.heap[b]?):mb a k h n:=⟨ca c.row f,fun m e=>⟨(c.msg m e).1,(c.msg m e).2.1,(c.msg m e).2.2.1,ca (c.msg m e).2.2.2 (g m e)⟩,c.jn⟩
theorem aaG{N S x}(h:cL d a s u j N S x)(c b:Nat)(C:c<N)(D:b<N)(aM:c≠b){p:jU}{bo:List jU}(e3:S.ms c b=p::bo)(ok:xy N S.P p)(wok:oc N S.P (S.wait b)):
  O 156 #[Z a,A c,A b] d fun e w'=>(∃r,e=.returned r)/\jb a N s u j x.vl d w' (nG N S c b):=by
 have hN:=h.ct.room.hN;obtain⟨tC,nz,gl,fB,Jo,Ie,ao8,j0,aF,dx,cV⟩:=h.uT C D;have bZ:d.cell? (K a 3)=some x.aU:=by simp[World.cell?,h.ct.room.aH]
 rw[Jo]at bZ;obtain⟨pe,kj,z,nH,kV⟩:=h.queue C D;rw[e3]at kV nH z;simp only[aqk]at kV nH z;obtain⟨g,off,rfl⟩:=kV (by omega);obtain⟨n,hn⟩:∃n,n=bo.length:=⟨_,rfl⟩;rw[<-hn]at z nH;rw[z]at cV;obtain⟨m,l,cZ,ah,hl,nb,f0,f1,f2,_⟩:=h.first C D e3 z hn
 obtain⟨xv,M,pA,_,_,_⟩:=bm nb.1;obtain⟨lM,lN,mD,_,_,_⟩:=bm nb.2;have zA:=aa (h.each c b C D m (by rw[cZ];simp));rw[pA]at f1;rw[mD]at f2;rw[ah]at pA mD f1 f2;obtain⟨cH,mM⟩:∃cH,cH=p.heard.length:=⟨_,rfl⟩;obtain⟨Q,jJ⟩:∃Q,Q=p.refs.length:=⟨_,rfl⟩;rw[<-mM]at f1 pA;rw[<-jJ]at f2 mD;have Cv:=aa (And.intro pA mD);have OM:=aa (And.intro mM jJ);have D1:=aa ah;obtain⟨qQ,uW⟩:∃qQ,qQ=p.q:=⟨_,rfl⟩;rw[<-uW]at f0;have SQ:=aa uW;obtain⟨b4,te⟩:∃b4,b4=d.alloc (.cells #[.bool qQ,.slice xv cH M,.slice lM Q lN] 251):=⟨_,rfl⟩;have ay:=aa (show J d b4 by rw[te];exact(apY _ d).alloc (apX _) _);have ow:=aa (show b4.heap[d.heap.size]?=some (.cells #[.bool qQ,.slice xv cH M,.slice lM Q lN] 251 (0,0)) by rw[te];exact bI d _);have bT:(x.vl c).ownBlock=some gl:=by rw[aF];rfl
 obtain⟨cur,cr⟩:=bq (h.hl c C) bT;have kK:=cG (bj cr ay.o) (b*2+1);have c9:=aN cr;have h1:=h.ae ay.o;have NB:=aa (show ∀ky:Option Addr,(0<kj-1->ky=some (K g (off+3)))->jb a N s u j x.vl b4 (b4.setCell (K gl (b*2+1)) (.slice ky n (kj-1))) (fU S c b bo) from fun ky av=>by
  obtain⟨_,_,_,_,_,_,_,_,_,eQ⟩:=h1.first C D e3 z hn
  exact eQ aF ky av)
 have az:=aa h;have tF:=aa e3;have kO:=aa ok;have Jz:=aa wok;have kL1:=ae ay.o ao8;have k21:=ae ay.o cV;have qh:(0:Int)<=(c:Int):=aqc _;have kC:(c:Int)<(N:Int):=by omega
 have Mx:(0:Int)<=(b:Int):=aqc _;have My:(b:Int)<(N:Int):=by omega
 have gv:d.heap.size≠gl:=by omega
 clear h h1 cr bT nb pA mD ah hl cZ hn mM jJ uW e3 ok wok Jo z kV aF;go_enter func156,ntmps156;go_upto_region 2 with fail
 rw[<-te];clear te;go_cut [33] from 25 to 35 (fun v Jx=>jb a N s u j x.vl b4 Jx (fU S c b bo))
 case first =>
  go_wp2
  all_goals go_meet
  all_goals first
   |exact NB.o _ (fun _=>rfl)
   |(obtain rfl:kj=1:=(by omega);exact NB.o (some (K g off)) (fun e=>by omega))
 case rest=>
  obtain⟨jk,lF,n3,x2,se,my,oC,aaH⟩:=hcut;have w:oJ a N s u j jk lF n3 x.vl d wc (fU S c b bo) x2:=⟨se,my.before ay.o,fun k E=>⟨(oC k E).1,(oC k E).2.trans (ay.o.block k (az.o.cx k E))⟩,aaH⟩;have hz1:=ay.o.size;have F:wc.heap[d.heap.size]?=some (.cells #[.bool qQ,.slice xv cH M,.slice lM Q lN] 251 (0,0)):=(my.other _ (aN ow.o) (fun e=>by
   rcases e with e|e|e
   ·exact absurd (az.o.ct.lt _ e) (by omega)
   ·exact absurd (az.o.lt _ e) (by omega)
   exact absurd (az.o.cx _ e) (by omega))).trans ow.o
  have cy:wc.cell? (V d 0)=some (.bool qQ):=by simp[World.cell?,F]
  have bx:wc.cell? (V d 1)=some (.slice xv cH M):=by simp[World.cell?,F]
  have bU:wc.cell? (V d 2)=some (.slice lM Q lN):=by simp[World.cell?,F]
  have nb:qO wc m:=zA.o.1.ft zA.o.2.1 zA.o.2.2 fun k E=>(w.2.2.1 k E).2
  have aaI:=aa F;have xA:=aa w;have Gz:=aa nb;clear F w nb se my oC aaH ao8 kL1 dx cV k21 f0 f1 f2 bZ kK;cases qQ with
  |false=>
   have JD:jE 0 wc (.slice lM Q lN) p.refs:=by rw[<-Cv.o.2,<-D1.o];exact Gz.o.2
   have dd:=aa (akF xA.o.1 b D (show oc N (fU S c b bo).P ((fU S c b bo).wait b) from Jz.o) JD (fun k E=>(xA.o.2.2.1 k (zA.o.2.2 k (by rw[Cv.o.2];exact E))).1) kO.o.2);clear JD;go_wp2_with fail
   refine dd.o.mono ?_;rintro e w3 ⟨⟨r,rfl⟩,sa,JE,Ci,I,al⟩;have apz:=aa (xA.o.trans al);clear al;go_wp2
   (try simp only[Exit.inBlock,Exit.then])
   refine bodyPost_ret (results_none rfl _ _ _) rfl ?_;refine⟨⟨_,rfl⟩,?_⟩;unfold nG;rw[tF.o];simp only;rw[if_neg (by rw[<-SQ.o];simp)];exact apz.o.to
  |true=>
   obtain⟨gd,CO⟩:=kO.o.1 SQ.o.symm;obtain⟨heard,Au⟩:∃heard:Nat->Nat,heard=fun i=>p.heard.getD i 0:=⟨_,rfl⟩
   have zm:=aa Au;obtain⟨rfl⟩:cH=N:=by rw[OM.o.1];exact gd
   have GG:kH 0 d (.slice xv N M) p.heard:=by rw[<-Cv.o.1,<-D1.o];exact zA.o.1.1
   unfold kH at GG;rw[gd]at GG;obtain⟨ma',mc',wU,nx,oE,mw⟩:=bm GG;simp only[aqn,true_and]at wU;obtain⟨rfl,rfl⟩:=wU;obtain⟨L,rfl⟩:=mw c C;have aaJ:j L:=zA.o.2.1 L (by rw[Cv.o.1];rfl);have HHC:=aa (show ∀i,i<N->d.cell? (K L i)=some (A (heard i:Nat)) from fun i hi=>by
    have :=ir (f:=pw) (k:=1) (fun _=>rfl) GG (by rw[gd]) i (by omega) 0 (by omega);simp only[pw,arn,aqW,ard]at this;rw[this,Au];simp only;rw[asc,aq2 (by omega)];rfl)
   have HRH:=aa GG;have HGI:=aa aaJ;have Nq:=aa (show ∀i,i<N->heard i<=1000 from fun i hi=>by
    rw[Au];simp only;rw[asc,aq2 (by omega)];exact CO _ (ap6 _))
   have vv:=aa (And.intro gd CO);obtain⟨db,eY,a0,bf,b2,a6,a2,bc,a3,bZ,aj,Fh,j1,_,_,_,hh,_,_,_,_,_,_,Gi,_,_,hW,_,_⟩:=xA.o.1.Nk D;have ij:=hW c C;have NC:=xA.o.1.qG b c D C;unfold kH at NC;rw[ap2,aq6]at NC;obtain⟨Cs,hX,qU,df,c3,hE⟩:=bm NC;obtain⟨gk,rfl⟩:=hE c C;rw[qU]at ij;have E1:=aa qU;obtain⟨R,Da⟩:∃R,R=fU S c b bo:=⟨_,rfl⟩;rw[<-Da]at xA;have iN:=aa Da;have a7:=aa (show wc.heap[d.heap.size]?=some (.cells #[.bool true,.slice (some (H L)) N M,.slice lM Q lN] 251 (0,0)) from aaI.o);clear GG mw aaJ CO Au aj hW NC hE qU Da aaI bU;go_upto_block 0 with fail
   go_cut [9] (fun i wd=>oJ a N s u j jk lF n3 x.vl d wd (wa R b c heard) x2/\wd.heap[d.heap.size]?=some (.cells #[.bool true,.slice (some (H L)) N M,.slice lM Q lN] 251 (0,0)))
   case first =>
    go_wp2_with fail
    go_loopw [9] (fun i wr=>∃k:Nat,k<=N/\i=A k/\oJ a N s u j jk lF n3 x.vl d wr (uX R b c heard k) x2/\wr.heap[d.heap.size]?=some (.cells #[.bool true,.slice (some (H L)) N M,.slice lM Q lN] 251 (0,0))) (fun i _=>N-(intOf i).toNat)
    case atStart=>exact⟨0,apZ _,rfl,by rw[ak3];exact xA.o,a7.o⟩
    case round=>
     obtain⟨k,E,rfl,w,F⟩:=hrel;have fz:wr.cell? (H a)=some (A N):=by simp[World.cell?,w.1.ct.room.aH]
     have U:=aa w;have aP:=aa F;by_cases aE:k<N
     ·have SR:wr.cell? (V d 1)=some (.slice (some (H L)) N M):=by simp[World.cell?,F]
      have AP:=SB (w.2.2.1 L HGI.o).2 (HHC.o k aE);have JF:=w.1.qG b c D C;unfold kH at JF;rw[ap2,aq6,E1.o]at JF;have Cn:=ir (f:=pw) (k:=1) (fun _=>rfl) JF (by simp) k (by simpa using aE) 0 (by omega);simp only[pw,arn,aqW,ard,aqH,List.getElem_range,ak6]at Cn;obtain⟨aoJ,ND⟩:=bq JF (g:=gk) rfl;have kK:=cG ND k;obtain⟨j4,SS⟩:∃j4,j4=heard k:=⟨_,rfl⟩;obtain⟨JG,SU⟩:∃JG,JG=R.known b c k:=⟨_,rfl⟩;rw[<-SS]at AP;rw[<-SU]at Cn;have QV:=aa (show d.heap.size≠gk from fun e=>by
       rw[e]at F;exact absurd (bK F ND) (by decide))
      have dT:=aa (And.intro SS SU);have HCK:=aa ND;have jR:(0:Int)<=(k:Int):=aqc _;have dZ:(k:Int)<(N:Int):=by omega
      clear w F JF ND SS SU;by_cases ly:JG<j4
      ·have Jy:(JG:Int)<(j4:Int):=by omega
       go_wp2_with fail
       go_quiet (fail)
       have gV:J wr (wr.drewN nq):=below_drewN (apY _ _) _;have HYQ:=aa (U.o.below gV);have Ga:=aa (bj aP.o gV);generalize wr.drewN nq=hf at gV HYQ Ga⊢;replace SR:=ae gV SR;replace AP:=ae gV AP;replace Cn:=ae gV Cn;have xT:hf.frozen? (K gk k)=false:=cG (bj HCK.o gV) k;clear gV kK;go_wp2;go_roundw
       case rel=>
        refine⟨k+1,by omega,by go_num,?_,(dy QV.o).trans Ga.o⟩;rw[<-ak4 R b c heard k (by rw[<-dT.o.1,<-dT.o.2];exact ly),<-dT.o.1];exact HYQ.o.know D C E1.o
       case measure=>simp[intOf];omega
      have Jy:¬(JG:Int)<(j4:Int):=by omega
      go_wp2_with fail
      go_quiet (fail)
      go_wp2;go_roundw
      case rel=>
       refine⟨k+1,by omega,by go_num,?_,bj aP.o (below_drewN (apY _ _) _)⟩;rw[<-ak5 R b c heard k (by rw[<-dT.o.1,<-dT.o.2];exact ly)];exact U.o.below (below_drewN (apY _ _) _)
      case measure=>simp[intOf];omega
     have Nn:k=N:=by omega
     subst Nn;clear w F;go_wp2;go_meet
     rw[<-ak7 R b c heard k fun i hi=>by rw[zm.o];simp only;rw[asc,asE (by have :=vv.o.1;omega)];rfl];exact⟨U.o,aP.o⟩
   case rest=>
    obtain⟨w,F⟩:=hcut;obtain⟨B,JH⟩:∃B,B=wa R b c heard:=⟨_,rfl⟩;rw[<-JH]at w;have xe:b≠c:=fun e=>aM e.symm
    have dS:B.sh b c=S.sh b c:=by rw[JH,iN.o];rfl
    have EZ:B.ms b c=S.ms b c:=by rw[JH,iN.o];unfold wa fU;simp only[b6 _ _ xe]
    have fa:=aa (show nG N S c b=fU B b c (ng (B.sh b c) (B.ms b c) (ry N heard (B.has b) (B.lost b))) by
     unfold nG;rw[tF.o];simp only;rw[if_pos SQ.o.symm,dS,EZ,JH,iN.o,zm.o];rfl)
    have SR:wc.cell? (V d 1)=some (.slice (some (H L)) N M):=by simp[World.cell?,F]
    obtain⟨gL2,cL2,GH,cl2,aaK,aoK,kL2,aoL,iS,_,_⟩:=w.1.uT D C;have c32:wc.cell? (K a 3)=some x2.aU:=by simp[World.cell?,w.1.ct.room.aH]
    rw[aaK]at c32;have JD:kH 0 wc (.slice (some (H L)) N M) p.heard:=by
     unfold kH;rw[vv.o.1];exact ca HRH.o fun g ag=>by
      have e:L=g:=by simpa[Value.ownBlock]using ag
      subst e;exact(w.2.2.1 L HGI.o).2
    have bY:=aa (akW w.1 b D JD vv.o.1 vv.o.2);rw[<-zm.o]at bY;have U:=aa w;have rr:=aa iS;clear w F JH dS EZ aaK iS JD;go_upto_block 2 with(go_at_call 179;refine bY.o.mono ?_;rintro e w4 ⟨v,y,rfl,W,gD,gp⟩;have Cx:=aa W;have ak8:=aa gD;have fx:=aa gp;obtain⟨bV,GI,EJ,aoM,ak9,aaL⟩:=bm W.row;subst EJ;unfold maxLen at ak9;have HVA:=aa aaL;clear W gD gp aaL)
    have nt:=aa (U.o.below fx.o);obtain⟨sh,dS⟩:∃sh,sh=B.sh b c:=⟨_,rfl⟩;obtain⟨us,NF⟩:∃us,us=y.map fm.p:=⟨_,rfl⟩;have tv:=aa (And.intro dS NF);have SV:=aa (show us.length=y.length by rw[NF,ap2]);have ala:=aa (show us=ry N heard (B.has b) (B.lost b) by rw[NF];exact ak8.o);clear dS NF;have H9:=fx.o.size;have BZ:=U.o.2.1.size;have aaM:=aa (show ∀k,(∃m∈y,m.cf.ownBlock=some k)\/(Value.slice bV y.length GI).ownBlock=some k->wc.heap.size<=k/\k<w4.heap.size from fun k E=>by
     rcases E with⟨m,hm,E⟩|E
     ·exact ap1 (Cx.o.msg m hm).2.2.2 k E
     exact ap1 Cx.o.row k E)
    go_wp2_with fail
    go_loopw [12] (fun i wr=>∃k:Nat,k<=y.length/\i=A k/\∃e5 I' x',oJ a N s u j jk e5 I' x.vl d wr (fU B b c (ng sh (B.ms b c) (us.take k))) x'/\x'.vl=x2.vl/\mb wc.heap.size wr (.slice bV y.length GI) y/\(∀k,e5 k->lF k\/w4.heap.size<=k)/\w4.heap.size<=wr.heap.size) (fun i _=>y.length-(intOf i).toNat)
    case atStart=>exact⟨0,apZ _,rfl,lF,n3,x2,by rw[List.take_zero,show ng sh (B.ms b c) []=B.ms b c from rfl,ak2];exact nt.o,rfl,Cx.o,fun k E=>.inl E,apX _⟩
    case round=>
     obtain⟨k,E,rfl,JE,Ci,I,w,lv,W,SX,zH⟩:=hrel;by_cases aE:k<y.length
     ·obtain⟨Cz,JI⟩:∃Cz,Cz=fU B b c (ng sh (B.ms b c) (us.take k)):=⟨_,rfl⟩;rw[<-JI]at w;have hs5:Cz.sh b c=sh:=by rw[JI,tv.o.1];rfl
      have FJ:Cz.ms b c=ng sh (B.ms b c) (us.take k):=by rw[JI];unfold fU;simp only[bF]
      obtain⟨gL5,cL5,gl5,cl5,_,_,_,_,GJ,s5,sN⟩:=w.1.uT D C;rw[lv,rr.o]at GJ;simp only[aqn,aqo,aqx,and_true,true_and]at GJ;obtain⟨rfl,rfl⟩:=GJ;rw[hs5]at s5;obtain⟨NG,NH,BC,aaN,_⟩:=w.1.queue D C;have LS:=aa BC;obtain⟨X,BN⟩:∃X,X=(Cz.ms b c).length:=⟨_,rfl⟩;rw[<-BN]at BC aaN;rw[BC]at sN;obtain⟨hA,rfl⟩:=HVA.o k aE;have fe:=W.row;unfold yQ at fe;have fI:∀t r,(fC y[k])[t]?=some r->t<3->wr.cell? (K hA (k*3+t))=some r:=fun t r hu au=>by
       have :=ir (f:=fC) (k:=3) (fun _=>rfl) fe rfl k aE t au;rw[this];exact hu
      obtain⟨y1,y2,y3,y4⟩:=W.msg y[k] (ap6 _);obtain⟨SY,SZ,JJ,_,_,_⟩:=bm y4;obtain⟨JK,JL⟩:∃JK,JK=y[k].p.refs.length:=⟨_,rfl⟩;rw[<-JL]at JJ;have g0:wr.cell? (K hA (k*3))=some (.bool false):=fI 0 (.bool false) (by unfold fC;rw[y2];rfl) (by omega);have g1:=fI 1 (.slice none 0 0) (by unfold fC;rw[y1];rfl) (by omega);have g2:=fI 2 (.slice SY JK SZ) (by unfold fC;rw[JJ];rfl) (by omega);have huk:us[k]'(by rw[SV.o];exact aE)=y[k].p:=by simp only[tv.o.2,aqH]
      have nN:=ak0 (sh:=sh) (l:=B.ms b c) (us:=us) (i:=k) (by rw[SV.o];exact aE);rw[huk,<-FJ,<-BN]at nN;have r9:=aa nN;have vL:=aa (And.intro BN (And.intro FJ JI));have Y:=aa w;have S0:=aa W;have NI:=aa lv;have yb:=aa SX;have HYM:=aa (show fC y[k]=[.bool false,.slice none 0 0,.slice SY JK SZ] by unfold fC;rw[y1,y2,JJ]);have S1:=aa (And.intro y1 JJ);have HYI:=aa (show qO wr y[k] from⟨by rw[y1,y3];exact aqe _ _ _ _,gT y4 (apZ _)⟩);have HYB:=aa (show ∀q,y[k].cf.ownBlock=some q->¬jk q/\¬JE q/\d.heap.size<=q from fun q z=>by
       obtain⟨bx,bU⟩:=aaM.o q (.inl ⟨_,ap6 _,z⟩);refine⟨fun e=>absurd (U.o.1.ct.lt q e) (by omega),fun e=> ?_,by omega⟩;rcases SX q e with e|e
       ·exact absurd (U.o.1.lt q e) (by omega)
       omega)
      have jR:(0:Int)<=(k:Int):=aqc _;have dZ:(k:Int)<(y.length:Int):=by omega
      obtain⟨aoN,S2⟩:=bq (w.1.hl b D) (g:=GH) (by rw[lv,rr.o];rfl);have zW:=aa S2;have Nx:=aN S2;clear w lv W SX fe fI y1 y2 y3 y4 JJ JL huk nN BN FJ JI hs5 BC S2;cases sh with
      |true=>
       go_wp2;go_roundw
       case rel=>
        refine⟨k+1,by omega,by go_num,JE,Ci,I,?_,NI.o,S0.o,yb.o,zH⟩;rw[r9.o,if_pos (.inl rfl),vL.o.2.1,<-vL.o.2.2];exact Y.o
       case measure=>simp[intOf];omega
      |false=>
       by_cases hz:X<12
       ·have xt:(X:Int)<12:=by omega
        have HQ6:=aa (show I.fv b c=.slice NG X NH by rw[LS.o,vL.o.1]);have o5:=aa (show(I.im b c).length=X by rw[vL.o.1,<-Y.o.1.pm b c D C,ap2]);have xu:=aa (show h9 wr 251 3 (.slice NG X NH) (I.im b c).length ((I.im b c).flatMap fC) by rw[<-HQ6.o];exact Y.o.1.ak b c D C);have kf:=aa (show eU (I.fv b c)≠some GH from fun e=>by
         obtain⟨hv,cg⟩:=(Y.o.1.ak b c D C).lt e;exact absurd (bK zW.o cg) (by decide))
        have aoO:=World.new_ne wr (K GH (c*2+1)) sN;have aoP:GH≠wr.heap.size:=by omega
        have bL:=aa (show J wr (wr.drew.alloc (.cells #[.bool false,.slice none 0 0,.slice SY JK SZ] 251)) from(apY _ wr).drew.alloc (apX _) _);have zK:GH<wr.drew.heap.size:=Nx;have Cu:=aa hz;go_wp2_with fail
        go_region_law (first
         |(refine Ss fC 3 56 247 251 (.agg #[.bool false,.slice none 0 0,.slice none 0 0]) (by kernel_rfl) underlying247 rfl (by omega) (fun _=>rfl) (by rfl) (.tmp 118) (.tmp 123) (by rfl) (.slice NG X NH) (I.im b c) (by rfl) (xu.o.ae fun k E=>bL.o.block k (by obtain⟨hv,cg⟩:=xu.o.lt E;exact aN cg)) wr.heap.size 1 (y[k]'aE) (by rfl) (by rw[HYM.o];exact Jq (bI _ _)) (Nf S1.o.1 S1.o.2) (by rw[o5.o];have :=Cu.o;omega) (by rw[o5.o];have :=Cu.o;unfold maxLen;omega) ?_;intro v6 w6 ha dw fR;rw[<-HQ6.o]at dw fR;have eA:=aa ha;have j8:=aa dw;have iY:=aa fR;have fO:=aa ((dw.other GH (by simp;omega) kf.o).trans ((hK _ _ zK).trans zW.o));replace sN:=dw.cell kf.o (ae bL.o sN);clear ha dw fR;obtain⟨Fp,n6c,rfl⟩:=eA.o.form;have vb:=cG fO.o (c*2+1)))
        all_goals go_wp2
        all_goals go_roundw
        all_goals first
         |(simp[intOf];omega)
         |(
          obtain⟨S3,S4,alb,S5,hL6⟩:=Y.o.Ng D C bL.o j8.o eA.o iY.o (HYI.o.ae bL.o) (fun q z=>by rw[S1.o.1]at z;cases z) HYB.o (by rw[NI.o];exact rr.o);have C1:∀q,((∃m∈y,m.cf.ownBlock=some q)\/(Value.slice (some (H hA)) y.length GI).ownBlock=some q)->q<wr.heap.size/\¬JE q:=fun q z=>by
           obtain⟨bx,bU⟩:=aaM.o q z;refine⟨by omega,fun e=> ?_⟩;rcases yb.o q e with e|e
           ·exact absurd (U.o.1.lt q e) (by omega)
           omega
          refine⟨k+1,by omega,by go_num,S3,S4,sr I b c (.slice Fp ((I.im b c).length+1) n6c) (I.im b c++[y[k]]),?_,NI.o,S0.o.stay (fun q z=>S5.other q (C1 q (.inr z)).1 (C1 q (.inr z)).2) (fun m hm q z=>S5.other q (C1 q (.inl ⟨m,hm,z⟩)).1 (C1 q (.inl ⟨m,hm,z⟩)).2),fun q z=> ?_,ap0 zH S5.size⟩
          ·rw[r9.o,if_neg (by have :=Cu.o;simp;omega)];have qH:fU Cz b c (Cz.ms b c++[y[k].p])=fU B b c (Cz.ms b c++[y[k].p]):=by
            conv=>lhs;rw[vL.o.2.2]
            rw[ak1,<-vL.o.2.2]
           rw[<-qH];exact alb
          rcases hL6 q z with e|e
          ·exact yb.o q e
          exact .inr (ap0 zH e))
       have xt:¬(X:Int)<12:=by omega
       go_wp2;go_roundw
       case rel=>
        refine⟨k+1,by omega,by go_num,JE,Ci,I,?_,NI.o,S0.o,yb.o,zH⟩;rw[r9.o,if_pos (.inr (by omega)),vL.o.2.1,<-vL.o.2.2];exact Y.o
       case measure=>simp[intOf];omega
     have dZ:k=y.length:=by omega
     subst dZ;have Y:=aa w;clear w W;go_wp2;go_end0
     refine⟨⟨_,rfl⟩,?_⟩;rw[fa.o,<-ala.o,<-tv.o.1];rw[<-SV.o,ari]at Y;exact Y.o.to
structure gS (N:Nat) (S:bP):Prop where
 wait:∀c,c<N->oc N S.P (S.wait c)
 msg:∀c d,c<N->d<N->∀m∈S.ms c d,xy N S.P m
 len:∀c d,c<N->d<N->(S.ms c d).length<=12
 has:∀c i,c<N->i<N->S.has c i<=(S.P i).length
 qo:∀i,i<N->(S.P i).length<=60
theorem xy.mono{m}{N:Nat}{P P':Nat->List bH}(h:∀i,i<N->(P i).length<=(P' i).length)(a:xy N P m):xy N P' m:=⟨a.1,fun f b=>⟨(a.2 f b).1,ap0 (a.2 f b).2 (h _ (a.2 f b).1)⟩⟩
theorem oc.mono{l}{N:Nat}{P P':Nat->List bH}(h:∀i,i<N->(P i).length<=(P' i).length)(a:oc N P l):oc N P' l:=⟨a.1,fun f b=>⟨(a.2 f b).1,ap0 (a.2 f b).2 (h _ (a.2 f b).1)⟩⟩
theorem gS.new(N:Nat):gS N ⟨fun _=>[],fun _ _=>0,fun _=>[],fun _ _=>0,fun _ _ _=>0,fun _ _=>[],fun _ _=>false⟩:=
 ⟨fun _ _=>⟨arh,fun f a=>(by cases a)⟩,fun _ _ _ _ m b=>(by cases b),fun _ _ _ _=>apZ _,fun _ _ _ _=>apX _,fun _ _=>apZ _⟩
theorem gS.shut{S}(h:gS a S)(c d:Nat):gS a (yO S c d):=⟨h.wait,h.msg,h.len,h.has,h.qo⟩
theorem gS.comes(h:gS b c)(l:a<b)(o:∀f∈m,f.1<b/\f.2<=(c.P f.1).length):gS b (uR c a m):=by
 have j:=oc.Ni (c.has a) (h.wait a l) o;refine⟨fun d g=> ?_,h.msg,h.len,fun d i g k=> ?_,h.qo⟩
 ·unfold uR;simp only;by_cases e:d=a
  ·subst e;rw[bF];exact⟨j.1.sublist List.filter_sublist,fun f p=>j.2 f (aqL.1 p).1⟩
  rw[b6 _ _ e];exact h.wait d g
 unfold uR;simp only;by_cases e:d=a
 ·subst e;rw[bF];exact aau (fun n q=>(j.2 _ q).2) _ _ (h.has d i g k)
 rw[b6 _ _ e];exact h.has d i g k
theorem gS.answers(h:gS a c)(l:b<a)(n o:Nat->Nat):∀m∈ry a n (c.has b) o,xy a c.P m:=by
 intro m p;obtain⟨j,_,rfl⟩:=ap5.1 p;refine⟨fun e=>(by cases e),fun f q=> ?_⟩;have d:=aq8 (aqE (aqL.1 q).1);obtain⟨i,r,d⟩:=aqq.1 d;obtain⟨k,s,rfl⟩:=ap5.1 d;have g:=aqX.1 r;have t:=aqX.1 s;have :=h.has b i l g;exact⟨g,by simp only;omega⟩
theorem gS.ja(h:gS a c)(q:b<a)(r:e<a){l:List jU}(p:∀m∈l,xy a c.P m)(s:l.length<=12):gS a (fU c b e l):=by
 have g:∀d f,(fU c b e l).ms d f=l\/(fU c b e l).ms d f=c.ms d f:=fun d f=>by
  unfold fU;simp only;by_cases n:d=b
  ·subst n;by_cases o:f=e
   ·subst o;rw[bF,bF];simp
   rw[bF,b6 _ _ o];simp
  rw[b6 _ _ n];simp
 refine⟨h.wait,fun d f j k m i=> ?_,fun d f j k=> ?_,h.has,h.qo⟩
 ·rcases g d f with g|g
  ·rw[g]at i;exact p m i
  rw[g]at i;exact h.msg d f j k m i
 rcases g d f with g|g
 ·simp_all
 rw[g];exact h.len d f j k
theorem gS.ask(h:gS a c)(j:b<a)(k:e<a):gS a (Ag a c b e):=by
 unfold Ag;split
 ·exact h
 rename_i d
 refine h.ja j k (fun m g=> ?_) ?_
 ·rcases ap7.1 g with g|g
  ·exact h.msg b e j k m g
  rw[ap9]at g;subst g;refine⟨fun _=>⟨by simp,fun n o=> ?_⟩,fun f p=>(by cases p)⟩;obtain⟨i,q,rfl⟩:=ap5.1 o;have l:=aqX.1 q;have :=h.has b i j l;have :=h.qo i l;omega
 rw[ap4,aq1];omega
theorem gS.I0(h:gS a c)(d:b<a)(f:e<a):gS a (Ez c b e):=by
 have i:=h.len b e d f;refine h.ja d f (fun m g=>h.msg b e d f m (List.mem_of_mem_tail g)) ?_;rw[List.length_tail];omega
theorem gS.later(h:gS e c)(f:a<e)(g:b<e):gS e (Ah c a b):=by
 have j:=h.len a b f g;have i:=h.msg a b f g;unfold Ah
 match d:c.ms a b with
 |[]=>exact h
 |m::l=>
  simp only;rw[d]at j i;split
  ·exact h
  refine h.ja f g (fun k n=>i k ?_) ?_
  ·simpa[or_comm]using n
  simp_all
theorem gS.again(h:gS e c)(f:a<e)(g:b<e):gS e (Ai c a b):=by
 have j:=h.len a b f g;have k:=h.msg a b f g;unfold Ai
 match d:c.ms a b with
 |[]=>exact h
 |m::l=>
  simp only;rw[d]at j k;split
  ·exact h
  rename_i o
  refine h.ja f g (fun n i=>k n ?_) ?_
  ·rcases ap7.1 i with i|i
   ·omega
   simp_all
  simp at j⊢;omega
theorem gS.Eh(h:gS a c)(f:b<a)(g:e<a){us:List jU}(i:∀m∈us,xy a c.P m):gS a (fU c b e (ng (c.sh b e) (c.ms b e) us)):=by
 refine h.ja f g ?_ (aaF _ _ _ (h.len b e f g));have k:∀(us l:List jU),(∀m∈l,xy a c.P m)->(∀m∈us,xy a c.P m)->∀m∈ng (c.sh b e) l us,xy a c.P m:=by
  intro us
  induction us with
  |nil=>intro l j _;exact j
  |cons u us ih=>
   intro l j i;refine ih _ (fun m d=> ?_) fun m d=>i m (by simp[d])
   split at d
   ·simp_all
   rcases ap7.1 d with d|d
   ·simp_all
   simp_all
 exact k us _ (h.msg b e f g) i
theorem gS.S6(h:gS e c)(j:b<e)(f:a<e)(o:b≠a):gS e (nG e c b a):=by
 have n:=h.len b a j f;have k:=h.msg b a j f;unfold nG
 match d:c.ms b a with
 |[]=>exact h
 |m::l=>
  simp only;rw[d]at n k;have g:gS e (fU c b a l):=h.ja j f (fun p q=>k p (by simp[q])) (by simp at n;omega);split
  ·have r:gS e (wa (fU c b a l) a b fun i=>m.heard.getD i 0):=⟨g.wait,g.msg,g.len,g.has,g.qo⟩;have s:(wa (fU c b a l) a b fun i=>m.heard.getD i 0).ms a b=c.ms a b:=by
    unfold wa fU;simp only;rw[b6 _ _ fun d=>o d.symm]
   have :=r.Eh f j (us:=ry e (fun i=>m.heard.getD i 0) (c.has a) (c.lost a)) (h.answers f _ _);rw[s]at this;exact this
  exact g.comes f (k m (by simp)).2
theorem gS.wrote(h:gS b c){j:List bH}(o:(c.P a++j).length<=60):gS b (jF c a j):=by
 have k:∀i,(c.P i).length<=((jF c a j).P i).length:=fun i=>by
  unfold jF;simp only;by_cases e:i=a
  ·subst e;rw[bF,ap4];omega
  rw[b6 _ _ e];omega
 refine⟨fun d g=>(h.wait d g).mono fun i _=>k i,fun d f g p m q=>(h.msg d f g p m q).mono fun i _=>k i,h.len,fun d i g l=> ?_,fun i l=> ?_⟩
 ·unfold jF;simp only;split
  ·rename_i e
   rw[e.2,bF];omega
  have r:=h.has d i g l;have n:=k i;unfold jF at n;simp only at n;omega
 unfold jF;simp only;by_cases e:i=a
 ·subst e;rw[bF];exact o
 rw[b6 _ _ e];exact h.qo i l
def wg (N:Nat) (c d:Nat):Nat->bP->bP
 |0,S=>S
 |k+1,S=>wg N c d k (nG N S c d)
theorem alc{N:Nat}{S:bP}(c:a≠b):(nG N S a b).ms a b=(S.ms a b).tail/\(nG N S a b).sh=S.sh:=by
 unfold nG
 match e:S.ms a b with
 |[]=>simp_all
 |m::d=>
  simp only;split
  ·unfold fU wa;simp only;rw[b6 _ _ c,bF,bF];simp
  unfold uR fU;simp only[bF];simp
end Go.Proofs.YtnkpogjiiohapaaGreatDoor
