/- Our own text. -/
import Derived.Deep.CutBlock
import Derived.Test.YtnkpogjiiohapaaGreatDoorA25
set_option linter.unusedSimpArgs false
set_option linter.unusedVariables false
set_option maxRecDepth 1000000
set_option maxHeartbeats 8000000
namespace Go.Proofs.YtnkpogjiiohapaaGreatDoor
open Go.RowKit Tryz
section
variable {a b j v D P:Nat}{c l Q:World}{d:bP}{e h i C E F:Nat->Prop}{f:ef}{k q u R:Value}{m:List Nat}{r:List (Nat×Nat)}{s:List gM}{w:List Value}{y:Nat->Value}{z:TypeId}{I:Act}{L:Array Oper}{M:Exit->Act->World->Prop}{N:Oper}
theorem apT{a:Act->World->Prop}{E:Prop}(i:N.guard=none)(s x:Operand)(k:N.op=.call {callee:=.builtin .append,args:= #[s,x],argTypes:= #[223,223]})(B:Nat)(v:Value)(l:List (Nat×Nat))(m:I.eval s=v)(n:ld B c v l)(g b:Nat)(y:Nat×Nat)(o:I.eval x=aa g 1 b)(p:∀j u,(xy y)[j]?=some u->c.cell? (K g j)=some u)(w:l.length<10000000)(q:B<=c.heap.size)(h:∀d e,ld B e d (l++[y])->c.grownBy e v.ownBlock->lB c v d->a (I.put N.dst d) e):
  if Region.wanted N (yielded L I.tmps)=true then Oper.wp prog N I c a M else E:=
 AI xy 2 16 223 258 (.agg #[A 0,A 0]) (by kernel_rfl) underlying223 rfl (by omega) (λ_=>rfl)
  i s x k B v l m n g b y o p (λu f=>by simp[xy]at f;rcases f with rfl|rfl<;>rfl) (by omega) (by unfold maxLen;omega) q (λd e z r t=>h d e (by unfold ld;simp_all) r t)
theorem Xp(h:c.heap[a]?=some (.cells #[k,q] z)):∀j u,[k,q][j]?=some u->c.cell? (K a j)=some u:=by
 intro j u b;simp only[World.cell?,h]
 simp_all
theorem Ic {α:Type} (f:Nat->α) (c:Nat) (a b:α):upd (upd f c a) c b=upd f c b:=by
 funext i;by_cases e:i=c
 .subst e;rw[bL,bL]
 rw[ch _ _ e,ch _ _ e,ch _ _ e]
theorem apU(S:bP)(c:Nat)(a b:List (Nat×Nat)):ob (ob S c a) c b=ob S c b:=by unfold ob;simp only[Ic]
theorem Xq{g:Nat}(h:l.heap[g]?=c.heap[g]?)(b:c.cell? (K g a)=some k):l.cell? (K g a)=some k:=by
 simp only[World.cell?]at b⊢
 simp_all
def rt (S:bP) (c:Nat) (a:List (Nat×Nat)) (k:Nat):bP:={ob S c a with ai:=upd S.ai c λd=>if d<k then runN a d (S.ai c d) 61 else S.ai c d}
theorem apV(S:bP)(c:Nat)(a:List (Nat×Nat)):rt S c a 0=ob S c a:=by unfold rt ob;simp only;congr 1;exact yR S.ai c
theorem apW(S:bP)(c:Nat)(a:List (Nat×Nat))(k:Nat):qD (rt S c a k) c k (S.ai c k)=rt S c a k:=by
 unfold qD rt;simp only[bL,Ic];congr 2;funext d;by_cases e:d=k
 .subst e;rw[bL,a7 (by omega)]
 rw[ch _ _ e]
theorem apX(S:bP)(c:Nat)(a:List (Nat×Nat))(k:Nat):qD (rt S c a k) c k (runN a k (S.ai c k) 61)=rt S c a (k+1):=by
 unfold qD rt;simp only[bL,Ic];congr 2;funext d;by_cases e:d=k
 .subst e;rw[bL,bn (by omega)]
 rw[ch _ _ e];by_cases b:d<k
 .rw[bn b,bn (by omega)]
 rw[a7 b,a7 (by omega)]
theorem apY(S:bP)(c d a b:Nat):qD (qD S c d a) c d b=qD S c d b:=by unfold qD;simp only[bL,Ic]
theorem apZ (S:bP) (c:Nat) (l:List (Nat×Nat)) (N:Nat) (h:∀f∈n7 (S.ai c) (S.en c) l,f.1<N):ob (rt S c (n7 (S.ai c) (S.en c) l) N) c ((n7 (S.ai c) (S.en c) l).filter λf=>decide (runN (n7 (S.ai c) (S.en c) l) f.1 (S.ai c f.1) 61<f.2))=xA S c l:=by
 unfold ob rt xA ob;simp only[Ic];congr 2;funext d;by_cases e:d<N
 .simp_all
 rw[a7 e,Xo λa=>e (h _ a)]
def Ns (W:World) (a:Addr):Nat:=match W.cell? a with
 |some (.int _ n)=>n.toNat
 |_=>0
theorem ap0{rest:List Oper}(e:N.guard=none)(s x:Operand)(f:N.op=.call {callee:=.builtin .append,args:= #[s,x],argTypes:= #[223,223]})(B:Nat)(v:Value)(l:List (Nat×Nat))(y:Nat×Nat)(i:I.eval s=v)(k:ld B c v l)(g:Nat)(m:I.eval x=aa g 1 1)(n:c.heap[g]?=some (.cells #[A y.1,A y.2] 258))(q:l.length<1000000)(o:B<=c.heap.size)(h:∀d a,ld B a d (l++[y])->c.grownBy a v.ownBlock->wpList prog L M rest (I.put N.dst d) a):wpList prog L M (N::rest) I c:=
 Lc xy 2 16 223 258 (.agg #[A 0,A 0]) (by kernel_rfl) underlying223 rfl (by omega) (λ_=>rfl)
  e s x f B v l [y] i k (aa g 1 1) m (.inr ⟨_,_,rfl,λj u b=>by
   have :((H g):Addr).add j=(K g j):=by unfold Addr.add;simp_all
   rw[this];rw[jI,SY,oM]at b;exact Xp n j u b⟩) (λu b=>by simp[xy]at b;rcases b with rfl|rfl<;>rfl) (by simp;omega) (by simp;unfold maxLen;omega) o (λd a r p=>h d a (by unfold ld;simp_all) p)
theorem ap1 (h:c3 c b i C e a d f) (m:Nat) (R:m<a) (ok:pY a d.P (d.en m)) (aP:ld 0 c k r) (hrI:∀l,k.ownBlock=some l->e l) (hl:∀p∈r,p.1<a/\p.2<=(d.P p.1).length):
  O 178 #[Z b,A m,k] c λs w'=>(∃u,s=ad u)/\j7 b a i C e f.vl c w' (xA d m r):=by
 have hN:=h.cm.bN.hN;have ew:=ag (show ∀q,q<a->(d.P q).length<=60 from λq hi=>by rw[<-h.cm.ar q hi,c2];exact h.cm.bN.cw q hi);obtain⟨ET,tu,Nt,ie,iW,h6⟩:=bz aP;unfold maxLen at iW;have HRI:=ag hrI;have ib:=ag aP;have re:=ag h6;have cr:=ag hl;have nR:=ag ok;obtain⟨dy,fy,Np,Cr,cr2⟩:∃dy fy,f.aW=aa dy a fy/\a<=fy/\c.cell? (K b 2)=some (aa dy a fy):=by obtain⟨dy,fy,L,h1,_,l,_⟩:=h.RN R;exact⟨dy,fy,L,h1,l⟩
 have qa:(0:Int)<=(m:Int):=by simp
 have jT:(m:Int)<(a:Int):=by omega
 have aT:=ag h;subst Nt;clear h aP h6 hl ok hrI;go_enter func178,ntmps178;go_upto_block 0 with fail
 go_cut [7] (λq wc=>∃M D,c3 wc b i M e a (ob d m (n7 (d.ai m) (d.en m) r)) D/\r3 m i C M e f D c wc)
 case first =>
  go_wp2_with fail
  go_loopw [7] (λq wr=>∃l:Nat,l<=r.length/\q=A l/\∃M D,c3 wr b i M e a (ob d m (n7 (d.ai m) (d.en m) (r.take l))) D/\r3 m i C M e f D c wr) (λq _=>r.length-(intOf q).toNat)
  case atStart=>exact⟨0,b6 _,rfl,C,f,by simp[ob,n7,yR];exact aT.o,r3.dn (ca _ _)⟩
  case round=>
   obtain⟨l,N,rfl,M,D,B,S⟩:=hrel;obtain⟨x,wb⟩:∃x,x=n7 (d.ai m) (d.en m) (r.take l):=⟨_,rfl⟩;rw[<-wb]at B;have Kl:pY a d.P x:=by rw[wb];exact pY.RO _ nR.o λp aH=>cr.o p (mo aH)
   have sk:=Kl.len hN ew.o;by_cases aL:l<r.length
   .obtain⟨lJ,rfl⟩:=re.o l aL;have hRw:ld 0 wr (aa lJ r.length tu) r:=cu ib.o λg aq=>S.Ah g (HRI.o g aq) (cX ib.o g aq).2
    obtain⟨fT,fm⟩:=ld.cells hRw rfl l aL;obtain⟨y,A6⟩:∃y,y=r[l].1:=⟨_,rfl⟩;obtain⟨z,tY⟩:∃z,z=r[l].2:=⟨_,rfl⟩;rw[<-A6]at fT;rw[<-tY]at fm;have k1:r[l]=(y,z):=by rw[A6,tY]
    obtain⟨Nu,hfP⟩:=cr.o r[l] (dB _);rw[<-A6]at Nu;obtain⟨uQ,Nv,a0,bw,ck,bm,a2,bq,a3,ce,L,_,h4,X,F,dm,hK,aD,cY,gu,n3,Hs,_,_,r0,_,_,⟨ap2,Ie⟩,_⟩:=B.B5 R;have FJ:=S.aW;rw[L,Np]at FJ;simp only[oO,po,tU,sb,qJ]at FJ;obtain⟨rfl,rfl⟩:=FJ;have Km:(ob d m x).en m=x:=by unfold ob;simp only[bL]
    rw[Km]at F cY;have If:wr.cell? (K a0 y)=some (A (d.ai m y)):=r0 y Nu;obtain⟨U,kJ⟩:∃U,U=d.ai m y:=⟨_,rfl⟩;rw[<-kJ]at If;have B6:ld 0 wr (.slice ck x.length bm) x:=by have :=B.en m R;rw[Km]at this;rw[<-cY];omega
    have Xr:=ag (λW (Q:J wr W)=>aes (some (H a0)) (some (H a2)) (some (H a3)) a a a bw bq ce (.slice ck x.length bm) x y z W (dI B6 Q));have kN:=ag (show J wr wr.drew from(gb wr));have sy:=ag B6;have bR:=ag B;have B7:=ag S;have RP:=ag Ie;have dG:=aU Ie;have jY:(0:Int)<=(l:Int):=by simp
    have ej:(l:Int)<(r.length:Int):=by omega
    have ap3:(0:Int)<=(y:Int):=by simp
    have ap4:(y:Int)<(a:Int):=by omega
    have Xs:=ag (aN L cY);have AZ:=ag (show n7 (d.ai m) (d.en m) (r.take (l+1))=if U<z/\(y,z)∉x then x++[(y,z)] else x by rw[apR aL,<-wb,k1,kJ];rfl)
    have Xt:=ag sk;clear B S hRw Kl sk L aD cY gu n3 Ie B6 r0 Km k1 A6 tY kJ wb h4;go_upto_region 4 with fail
    go_cut [8] from 25 to 32 (λw Nw=>w=.bool (decide ((y,z)∈x))/\J wr Nw)
    case first =>
     go_region_law (first |(go_simp;go_at_call 195;refine(Xr.o _ kN.o).mono ?_;rintro s w3 ⟨rfl,E⟩;have cj:=ag (Hq.o (nv E));clear E;dsimp only))
     all_goals(go_wp2_with fail;go_meet;exact⟨rfl,cj.o⟩)
    case rest=>
     obtain⟨rfl,E⟩:=hcut;replace fT:=ak E fT;replace fm:=ak E fm;replace X:=ak E X;replace F:=ak E F;replace If:=ak E If;have ox:=E.size;have cj:=ag E;clear E;have Kn:=ag (B7.o.trans (r3.dn cj.o));have rK:=ag (bR.o.ak cj.o);have eQ:=ag (bB RP.o cj.o);have Ll:=cV eQ.o (m*4+1);by_cases oT:U<z
     .have ao:decide ((U:Int)<(z:Int))=true:=by simp;omega
      have Nx:(U:Int)<(z:Int):=by omega
      by_cases h3:(y,z)∈x
      .have uN:decide ((y,z)∈x)=true:=by simpa using h3
       rw[uN];rw[a7 (λs=>s.2 h3)]at AZ;clear h3;go_wp2_with fail
       go_quiet (fail)
       go_wp2;go_roundw
       case rel=>exact⟨l+1,by omega,by go_num,M,D,by rw[AZ.o];exact rK.o.ak (io (ca _ _) _),Kn.o.trans (r3.dn (io (ca _ _) _))⟩
       case measure=>simp[intOf];omega
      have uN:decide ((y,z)∈x)=false:=by simpa using h3
      rw[uN];rw[bn ⟨oT,h3⟩]at AZ;clear h3;have l9:=ag (show some uQ≠(Value.slice ck x.length bm).ownBlock from λs=>by exact iX sy.o s.symm RP.o (by decide))
      have jx:=ag (dI sy.o cj.o);have IR:uQ<wc.heap.size:=by omega
      go_wp2_with fail
      go_quiet (fail)
      have I:J wc (wc.drewN nq):=io (ca _ _) _;generalize wc.drewN nq=iJ at I⊢;replace fT:=ak I fT;replace fm:=ak I fm;replace F:=ak I F;have iN:=World.new_ne iJ (K uQ (m*4+1)) F;have b9:=ag (I.drew.alloc I.drew.size (.cells #[A y,A z] 258));have Dc:=ag (show iJ.heap[uQ]?=wc.heap[uQ]? from I.block uQ IR);have aiC:=c0 IR I.size;have alc:uQ≠iJ.heap.size:=by omega
      clear I;go_wp2_with fail
      go_region_law (first |(refine apT (by rfl) (.tmp 58) (.tmp 63) (by rfl) 0 (.slice ck x.length bm) x (by rfl) (dI jx.o b9.o) iJ.heap.size 1 (y,z) (by rfl) (Xp (bZ iJ.drew _)) (by have :=Xt.o;omega) (b6 _) ?_;intro v4 w4 hM eF iu;have gC:=((eF.block uQ (c0 IR b9.o.size) l9.o).trans (b9.o.block uQ IR));have yo:=Xq (gC.trans Dc.o.symm) F;have xX:=cV (gC.trans eQ.o) (m*4+1);have fU:=ag hM;have mE:=ag eF;have ny:=ag iu;clear hM eF iu gC;obtain⟨a4,lo,rS,yg,ns,rj⟩:=bz fU.o;subst rS;clear yg ns rj))
      all_goals go_wp2
      all_goals go_roundw
      all_goals first
       |(simp[intOf];omega)
       |(
        obtain⟨fL,x',JG,Ko⟩:=rK.o.aey R ((aR.cL b9.o).trans (aR.up mE.o λl N=>by rw[Xs.o.2];exact N)) fU.o (λl N=>by
         rw[Xs.o.2];rcases ny.o with s|s
         .rw[s]at N;exact .inl N
         exact .inr (cd b9.o.size (s l N))) Xs.o.1
        rw[apU,dh]at JG;rw[dh]at Ko;exact⟨l+1,by omega,by go_num,fL,x',by rw[AZ.o];omega,Kn.o.trans Ko⟩)
     have ao:decide ((U:Int)<(z:Int))=false:=by simp;omega
     have Nx:¬(U:Int)<(z:Int):=by omega
     rw[a7 (λs=>oT s.1)]at AZ;go_wp2_with fail
     go_quiet (fail)
     go_wp2;go_roundw
     case rel=>exact⟨l+1,by omega,by go_num,M,D,by rw[AZ.o];exact rK.o.ak (io (ca _ _) _),Kn.o.trans (r3.dn (io (ca _ _) _))⟩
     case measure=>simp[intOf];omega
   have ej:l=r.length:=by omega
   subst ej;rw[wv]at wb;have bR:=ag B;have B7:=ag S;clear B S;go_wp2;go_meet
   exact⟨M,D,by rw[<-wb];exact bR.o,B7.o⟩
 case rest=>
  obtain⟨M,D,n2,Xu⟩:=hcut;obtain⟨x,wb⟩:∃x,x=n7 (d.ai m) (d.en m) r:=⟨_,rfl⟩;rw[<-wb]at n2;have Kl:pY a d.P x:=by rw[wb];exact pY.RO _ nR.o cr.o
  have Xt:=ag (Kl.len hN ew.o);obtain⟨uQ,Nv,a0,bw,ck,bm,a2,bq,a3,ce,L,_,h4,X,F,dm,hK,aD,cY,gu,n3,Hs,_,_,_,_,_,_,_⟩:=n2.B5 R;have FJ:=Xu.aW;rw[L,Np]at FJ;simp only[oO,po,tU,sb,qJ]at FJ;obtain⟨rfl,rfl⟩:=FJ;have Km:(ob d m x).en m=x:=by unfold ob;simp only[bL]
  rw[Km]at F cY;have Y:=ag (show D.cp m 0=aa a0 a bw/\D.cp m 1=.slice ck x.length bm/\D.cp m 2=aa a2 a bq/\D.cp m 3=aa a3 a ce/\D.aW=aa uQ a Nv from⟨aD,cY,gu,n3,L⟩);have Ny:=ag Kl;have tq:=ag n2;have ap5:=ag Xu;have Xr:=ag wb;clear n2 Xu Kl L aD cY gu n3 Km h4 X F dm hK wb cr2;go_upto_block 2 with fail
  go_cut [9] (λq wd=>c3 wd b i M e a (rt d m x a) D/\r3 m i C M e f D c wd)
  case first =>
   go_wp2_with fail
   go_loopw [9] (λq wr=>∃l:Nat,l<=a/\q=A l/\c3 wr b i M e a (rt d m x l) D/\r3 m i C M e f D c wr) (λq _=>a-(intOf q).toNat)
   case atStart=>exact⟨0,b6 _,rfl,by rw[apV];exact tq.o,ap5.o⟩
   case round=>
    obtain⟨l,N,rfl,B,S⟩:=hrel;have cr0:wr.cell? (H b)=some (A a):=by simp[World.cell?,B.cm.bN.aP]
    have bR:=ag B;have B7:=ag S;clear B S;by_cases aL:l<a
    .have RQ:(l:Int)<(a:Int):=by omega
     go_wp2_with fail
     have kZ:=ag aL;go_loopw [10] (λw kO=>∃n j:Nat,n=d.ai m l+j/\n<=(d.P l).length/\runN x l n (61-j)=runN x l (d.ai m l) 61/\c3 kO b i M e a (qD (rt d m x l) m l n) D/\r3 m i C M e f D c kO) (λ_ W=>61-Ns W (K a0 l))
     case atStart=>exact⟨d.ai m l,0,rfl,by rw[<-aT.o.cm.ar l aL,c2];exact aT.o.cm.bN.eb m l R aL,rfl,by rw[apW];exact bR.o,B7.o⟩
     case round=>
      obtain⟨n,j,hnj,Xv,fz,B,S⟩:=hrel;obtain⟨gC2,cC2,L,ap6,_,h4,X,F,dm,hK⟩:=B.RN R;obtain⟨gH,oV,uk,IY,aC⟩:=B.cm.bN.Gx R;rw[Y.o.2.2.2.2]at L;rw[Y.o.1]at uk X;rw[Y.o.2.1]at F;rw[Y.o.2.2.1]at dm;rw[Y.o.2.2.2.1]at hK;simp only[oO,po,tU,sb,qJ]at L uk;obtain⟨rfl,rfl⟩:=L;obtain⟨rfl,rfl⟩:=uk;have Eh:=aC l aL;rw[show(qD (rt d m x l) m l n).ai m l=n by unfold qD;simp only[bL]]at Eh;have auQ:=cd Xv (ew.o l aL);obtain⟨auR,aez⟩:=b0 (B.cm.bN.hH m R) (show(D.cp m 0).ownBlock=some a0 by rw[Y.o.1];rfl);have B6:ld 0 wr (.slice ck x.length bm) x:=by have :=B.en m R;rw[Y.o.2.1,show(qD (rt d m x l) m l n).en m=x by unfold qD rt ob;simp only[bL]]at this;omega
      have x9:=ag (λW (Q:J wr W)=>show O 195 #[.agg #[aa a0 a bw,.slice ck x.length bm,aa a2 a bq,aa a3 a ce],.agg #[A l,A ((n:Int)+1)]] W _ from aes (some (H a0)) (some (H a2)) (some (H a3)) a a a bw bq ce (.slice ck x.length bm) x l (n+1) W (dI B6 Q));have kN:=ag (show J wr wr.drew from(gb wr));have G5:=ag B;have ap7:=ag S;have HXH:=ag aez;have RR:=ag (aN hnj (aN Xv fz));have jY:(0:Int)<=(l:Int):=by simp
      have oW:(0:Int)<=(n:Int):=by simp
      have auS:(n:Int)<=60:=by omega
      have Vp:IntKind.i64.wrap ((n:Int)+1)=(n:Int)+1:=mN _ (by omega);clear B S aez B6 hnj Xv fz aC;go_upto_region 10 with fail
      go_cut [10] from 75 to 88 (λw Nw=>w=.bool (decide ((l,n+1)∈x))/\J wr Nw)
      case first =>
       go_region_law (first |(go_simp;go_at_call 195;refine(x9.o _ kN.o).mono ?_;rintro s w3 ⟨rfl,E⟩;have cj:=ag (Hq.o (nv E));clear E;dsimp only))
       all_goals(go_wp2_with fail;go_meet;exact⟨rfl,cj.o⟩)
      case rest=>
       obtain⟨rfl,E⟩:=hcut;replace X:=ak E X;have ap8:=ak E Eh;have rK:=ag (G5.o.ak E);have Kn:=ag (ap7.o.trans (r3.dn E));have j8:=cV (bB HXH.o E) l;clear E;by_cases h3:(l,n+1)∈x
       .have uN:decide ((l,n+1)∈x)=true:=by simpa using h3
        rw[uN];have Fg:=ag h3;clear h3 uN;go_wp2;go_roundw
        case rel=>have eb:=(Ny.o.2 _ Fg.o).2;obtain⟨h1,h2⟩:=rK.o.apS R kZ.o (n:=n+1) eb Y.o.1;rw[apY]at h1;refine⟨n+1,j+1,by have :=RR.o.1;omega,eb,?_,h1,Kn.o.trans h2⟩;rw[<-RR.o.2.2,<-aew Fg.o];have MX:=ew.o l kZ.o;have :=RR.o.1;simp only at eb;congr 1;omega
        case measure=>
         have m1:Ns wr (K a0 l)=n:=by unfold Ns;rw[Eh];simp
         have m2:Ns (wc.setCell (K a0 l) (A ((n:Int)+1))) (K a0 l)=n+1:=by unfold Ns;rw[World.cell?_setCell_same' _ _ _ (by rw[ap8];rfl)];simp
         rw[m1,m2];omega
       have uN:decide ((l,n+1)∈x)=false:=by simpa using h3
       rw[uN];have Fg:=ag h3;clear h3 uN;go_wp2;go_roundw
       case rel=>refine⟨l+1,by omega,by go_num,?_,Kn.o⟩;rw[<-apX,<-RR.o.2.2,Xo Fg.o];exact rK.o
       case measure=>simp[intOf];omega
    have RQ:l=a:=by omega
    subst RQ;go_wp2;go_meet
    exact⟨bR.o,B7.o⟩
  case rest=>
   obtain⟨B,S⟩:=hcut;obtain⟨gC2,cC2,L,ap6,_,h4,X,F,dm,hK⟩:=B.RN R;obtain⟨gH,oV,uk,IY,aC⟩:=B.cm.bN.Gx R;rw[Y.o.2.2.2.2]at L;rw[Y.o.1]at uk X;rw[Y.o.2.1]at F;simp only[oO,po,tU,sb,qJ]at L uk;obtain⟨rfl,rfl⟩:=L;obtain⟨rfl,rfl⟩:=uk;have B6:ld 0 wc (.slice ck x.length bm) x:=by have :=B.en m R;rw[Y.o.2.1,show(rt d m x a).en m=x by unfold rt ob;simp only[bL]]at this;exact this
   obtain⟨a1',PF,mg,jR,e4,hI⟩:=bz B6;unfold maxLen at e4;simp only[oO,qJ]at mg;obtain⟨rfl,rfl⟩:=mg;have HHH:=ag (show ∀t,t<a->wc.cell? (K a0 t)=some (A (runN x t (d.ai m t) 61:Nat)) from λt ao=>by have :=aC t ao;rw[this];unfold rt;simp only[bL,bn ao])
   obtain⟨ap2,Ie⟩:=b0 B.cm.bN.ho (show D.aW.ownBlock=some uQ by rw[Y.o.2.2.2.2];rfl);have RP:=ag Ie;have dG:=aU Ie;have ek:=ag B6;have HWF:=ag hI;have bR:=ag B;have B7:=ag S;clear B S B6 hI Ie aC h4 dm hK;go_wp2_with fail
   go_loopw [11,12] (λv q wr=>∃l:Nat,l<=x.length/\q=A l/\(∃cq cf,v=.slice cq ((x.take l).filter λp=>decide (runN x p.1 (d.ai m p.1) 61<p.2)).length cf)/\ld wc.heap.size wr v ((x.take l).filter λp=>decide (runN x p.1 (d.ai m p.1) 61<p.2))/\J wc wr) (λ_ q _=>x.length-(intOf q).toNat)
   case atStart=>exact⟨0,b6 _,rfl,⟨none,0,rfl⟩,hg _ _ _ _,ca _ _⟩
   case round=>
    obtain⟨l,N,rfl,⟨cq,cf,rfl⟩,EJ,Q⟩:=hrel;by_cases aL:l<x.length
    .obtain⟨awg,rfl⟩:=HWF.o l aL;obtain⟨fT,fm⟩:=ld.cells ek.o rfl l aL;obtain⟨y,A6⟩:∃y,y=x[l].1:=⟨_,rfl⟩;obtain⟨z,tY⟩:∃z,z=x[l].2:=⟨_,rfl⟩;rw[<-A6]at fT;rw[<-tY]at fm;obtain⟨Nu,hfP⟩:=Ny.o.2 x[l] (dB _);rw[<-A6]at Nu;have If:=HHH.o y Nu;obtain⟨U,kJ⟩:∃U,U=runN x y (d.ai m y) 61:=⟨_,rfl⟩;rw[<-kJ]at If;replace fT:=ak Q fT;replace fm:=ak Q fm;replace If:=ak Q If;replace X:=ak Q X;replace F:=ak Q F;have sn:(x.take (l+1)).filter (λp=>decide (runN x p.1 (d.ai m p.1) 61<p.2))=(x.take l).filter (λp=>decide (runN x p.1 (d.ai m p.1) 61<p.2))++if U<z then[(y,z)] else[]:=by
      rw[lx aL,r6];congr 1;rw[show x[l]=(y,z) by rw[A6,tY],kJ];by_cases s:runN x y (d.ai m y) 61<z
      .simp[s]
      simp[s]
     have xh:=ag sn;obtain⟨Nz,I6⟩:∃Nz,Nz=(x.take l).filter (λp=>decide (runN x p.1 (d.ai m p.1) 61<p.2)):=⟨_,rfl⟩;have auT:Nz.length<=244:=by rw[I6];refine cd (r7 _ _) ?_;rw[gU];have :=Xt.o;omega
     rw[<-I6]at EJ xh⊢;clear sn I6 A6 tY kJ;have NA:=ag EJ;have bf:=ag Q;clear EJ Q;have jY:(0:Int)<=(l:Int):=kG _;have ej:(l:Int)<(x.length:Int):=by omega
     have ap3:(0:Int)<=(y:Int):=kG _;have ap4:(y:Int)<(a:Int):=by omega
     by_cases oT:U<z
     .rw[bn oT]at xh;have Nx:(U:Int)<(z:Int):=by omega
      go_wp2_with fail
      go_quiet (fail)
      have I:J wr (wr.drewN nq):=io (ca _ _) _;generalize wr.drewN nq=iJ at I⊢;replace fT:=ak I fT;replace fm:=ak I fm;replace F:=ak I F;have b9:=ag ((bp bf.o I).alloc (cd bf.o.size I.size) (.cells #[A y,A z] 258));have Jc:=ag (dI (dI NA.o I) (aV iJ (.cells #[A y,A z] 258)));clear I;go_wp2_with (at_builtin;(refine ap0 rfl (.tmp 132) (.tmp 140) rfl wc.heap.size (.slice cq Nz.length cf) Nz (y,z) rfl Jc.o iJ.heap.size rfl (bZ iJ _) (by omega) b9.o.size ?_;intro v4 w4 hM eF;have fU:=ag hM;have hZ:=ag (b9.o.grown eF b9.o.size (λl N=>(cX Jc.o l N).1));clear hM eF;obtain⟨a4,lo,rS,yg,ns,rj⟩:=bz fU.o;subst rS;clear yg ns rj))
      go_roundw
      case rel=>exact⟨l+1,by omega,by go_num,⟨a4,lo,by rw[xh.o,dh];rfl⟩,by rw[xh.o];have :=fU.o;rw[dh]at this;exact this,hZ.o⟩
      case measure=>simp[intOf];omega
     rw[a7 oT,oM]at xh;have Nx:¬(U:Int)<(z:Int):=by omega
     go_wp2_with fail
     go_quiet (fail)
     go_wp2;go_roundw
     case rel=>exact⟨l+1,by omega,by go_num,⟨cq,cf,by rw[xh.o]⟩,by rw[xh.o];exact dI NA.o (io (ca _ _) _),bp bf.o (io (ca _ _) _)⟩
     case measure=>simp[intOf];omega
    have ej:l=x.length:=by omega
    subst ej;rw[wv]at EJ⊢;have NA:=ag EJ;have bf:=ag Q;replace X:=ak Q X;replace F:=ak Q F;have j8:=cV (bB RP.o Q) (m*4+1);clear EJ Q;go_wp2;go_end0
    refine⟨⟨_,rfl⟩,?_⟩;obtain⟨fL,x',JG,Ko⟩:=bR.o.aey R (aR.cL bf.o) (ii NA.o (b6 _)) (λl N=>.inr (cX NA.o l N).1) Y.o.2.2.2.2;have uy:=Xr.o;subst uy;rw[apZ d m r a λp aH=>(Ny.o.2 p aH).1]at JG;exact⟨i,fL,e,x',JG,B7.o.pM.trans Ko.pM,λl N=>⟨N,(B7.o.trans Ko).Ah l N (aT.o.cI l N)⟩,(B7.o.trans Ko).vl⟩
def we (p:Nat×Nat->Bool) (q:List (Nat×Nat)):List la:=(List.range (chunks q.length)).map λj=>⟨false,[],((q.drop (8*j)).take 8).filter p⟩
theorem ap9{p:Nat×Nat->Bool}:(we p r).length=chunks r.length:=by simp[we]
theorem aqa(h:a%8=0):chunks (a+1)=chunks a+1/\8*chunks a=a:=by unfold chunks;omega
theorem aqb(h:a%8≠0):chunks (a+1)=chunks a/\0<chunks a/\8*(chunks a-1)<a/\a<8*chunks a:=by unfold chunks;omega
theorem aqc{p:Nat×Nat->Bool}(h:r.length%8=0)(f:Nat×Nat):we p (r++[f])=we p r++[⟨false,[],[f].filter p⟩]:=by
 obtain⟨a,c⟩:=aqa h;unfold we;rw[dh,wu,a,mM,ga];congr 1
 .refine F8 λj b=> ?_
  have d:=rA.1 b;rw[agk (by omega),Ay (by rw[ly];omega)]
 simp_all
theorem aqd{p:Nat×Nat->Bool}(h:r.length%8≠0)(f:Nat×Nat):∃a m,we p r=a++[⟨false,[],m⟩]/\we p (r++[f])=a++[⟨false,[],m++[f].filter p⟩]/\m.length<=8:=by
 obtain⟨d,i,k,l⟩:=aqb h;obtain⟨c,b⟩:∃c,chunks r.length=c+1:=⟨chunks r.length-1,by omega⟩;refine⟨(List.range c).map λj=>⟨false,[],((r.drop (8*j)).take 8).filter p⟩,((r.drop (8*c)).take 8).filter p,?_,?_,cd (r7 _ _) (by rw[gU];omega)⟩
 .unfold we;rw[b,mM,ga];rfl
 unfold we;rw[dh,wu,d,b,mM,ga];congr 1
 .refine F8 λj g=> ?_
  have n:=rA.1 g;rw[agk (by omega),Ay (by rw[ly];omega)]
 simp only[ip,uV];rw[agk (by omega),<-r6];have e:((r.drop (8*c))++[f]).take 8=(r.drop (8*c)).take 8++[f]:=by rw[kp (by simp;omega),kp (by simp;omega)]
 rw[e]
theorem aqe {cF b c:Nat->Nat}:(we (λf=>decide (c f.1<f.2)) (n8 cF b a)).take 3=tM a cF b c:=by unfold we tM;rw[<-Cd,List.take_range,Nat.min_comm]
theorem Xw (cF a:Nat->Nat) (n:Nat):n8 cF a (n+1)=n8 cF a n++(List.range (a n-cF n)).map λj=>(n,cF n+1+j):=by unfold n8;rw[mM,oL];simp
theorem aeA{cF ai:Nat->Nat}{b:Nat}:∀{n:Nat},(∀d,d<n->ai d<=b)->(n8 cF ai n).length<=n*b
 |0,_=>by simp[n8]
 |n+1,h=>by
  rw[Xw,dh,c2,ww];have ih:=aeA (cF:=cF) (n:=n) λd a=>h d (by omega)
  have :=h n (by omega);rw[uW];omega
def Ig:gM:=⟨⟨false,[],[]⟩,.slice none 0 0,.slice none 0 0⟩
structure nG (B:Nat) (w:World) (v:Value) (e1:List gM):Prop where
 row:B4 B w v e1
 iR:∀m∈e1,m.oH=.slice none 0 0/\m.p.q=false/\m.p.cF=[]/\ld B w m.cl m.p.oG
 kD:e1.Pairwise λa b=>∀k,a.cl.ownBlock=some k->b.cl.ownBlock≠some k
theorem nG.nil(B:Nat)(w:World):nG B w (.slice none 0 0) []:=⟨hg _ _ _ _,λm a=>(by cases a),List.Pairwise.nil⟩
theorem nG.ak{w v}{w':World}(h:nG a w v s)(c:J w w'):nG a w' v s:=⟨dI h.row c,λm b=>⟨(h.iR m b).1,(h.iR m b).2.1,(h.iR m b).2.2.1,dI (h.iR m b).2.2.2 c⟩,h.kD⟩
theorem nG.push{w' v}(h:nG a c v s)(o:B4 a w' k (s++[Ig]))(p:c.grownBy w' v.ownBlock):nG a w' k (s++[Ig]):=by
 refine⟨o,λm i=> ?_,xQ.2 ⟨h.kD,OJ _ _,λd u b l f w=> ?_⟩⟩
 .rcases dZ.1 i with i|i
  .obtain⟨q,r,t,j⟩:=h.iR m i;refine⟨q,r,t,cu j λg n=>p.block g (cX j g n).2 λe=> ?_⟩;obtain⟨x,y⟩:=b0 j n;obtain⟨z,B⟩:=b0 h.row e.symm
   simp_all
  rw[fR]at i;subst i;exact⟨rfl,rfl,rfl,hg _ _ _ _⟩
 rw[fR]at l;subst l;intro e;cases e
theorem aeB{y:gM}{v:Value}:∀(l:List gM),((l++[y]).flatMap gR).set (l.length*3+2) v=(l.flatMap gR)++[.bool y.p.q,y.oH,v]
 |[]=>rfl
 |x::l=>by
  have ih:=aeB (y:=y) (v:=v) l;rw[p5,jI,jI,iq,show(l.length+1)*3+2=(l.length*3+2)+1+1+1 by omega];show([Value.bool x.p.q,x.oH,x.cl]++(l++[y]).flatMap gR).set _ v=([Value.bool x.p.q,x.oH,x.cl]++l.flatMap gR)++_
  simp_all
theorem nG.add{w v'}{W:World}{m:gM}{f:Nat×Nat}(h:nG j w (aa b D v) (s++[m]))(n:D=s.length+1)(o:J w W)(u:ld j c v' (m.p.oG++[f]))(x:W.grownBy c m.cl.ownBlock)(L:lB W m.cl v'):
  nG j (c.setCell (K b (s.length*3+2)) v') (aa b D v) (s++[⟨⟨false,[],m.p.oG++[f]⟩,.slice none 0 0,v'⟩]):=by
 subst n;obtain⟨M,N,m3,P⟩:=h.iR m (by simp);have y:w.ownsRow j 251 3 (aa b (s.length+1) v) (s.length+1) ((s++[m]).flatMap gR):=by
  have :=h.row;unfold B4 at this
  simp_all
 obtain⟨cur,Q⟩:=b0 y (g:=b) rfl;have z:=aU Q;have R:m.cl.ownBlock≠some b:=λe=>by
  obtain⟨B,C⟩:=b0 P e
  simp_all
 have gC:=(x.block b (c0 z o.size) λe=>R e.symm).trans (o.block b z);have S:c.ownsRow j 251 3 (aa b (s.length+1) v) (s.length+1) ((s++[m]).flatMap gR):=cu y λg r=>by
  have e:b=g:=by simpa[Value.ownBlock]using r
  simp_all
 have E:=Ki S (s.length*3+2) v';rw[aeB,M,N]at E;have F:∀a∈s,∀k,a.cl.ownBlock=some k->c.heap[k]?=w.heap[k]?/\k<w.heap.size/\k≠b:=λa i k l=>by
  have q:=(h.iR a (by simp[i])).2.2.2;have t:=(cX q k l).2;refine⟨(x.block k (c0 t o.size) λe=>((xQ.1 h.kD).2.2 a i m (by simp) k l) e.symm).trans (o.block k t),t,λe=> ?_⟩;subst e;obtain⟨B,C⟩:=b0 q l
  simp_all
 have U:v'.ownBlock≠some b:=λe=>by
  obtain⟨B,C⟩:=b0 u e
  simp_all
 refine⟨?_,λa i=> ?_,xQ.2 ⟨(xQ.1 h.kD).1,OJ _ _,λa i d I k l=> ?_⟩⟩
 .unfold B4;rw[dh,oL];exact E
 .rcases dZ.1 i with i|i
  .obtain⟨X,Y,ax,q⟩:=h.iR a (by simp[i]);refine⟨X,Y,ax,cu q λg r=> ?_⟩;obtain⟨av,_,cY⟩:=F a i g r;rw[dE cY];exact av
  rw[fR]at i;subst i;exact⟨rfl,rfl,rfl,kd u U v'⟩
 rw[fR]at I;subst I;intro e;obtain⟨_,aD,_⟩:=F a i k l;rcases L with n|n
 .exact(xQ.1 h.kD).2.2 a i m (by simp) k l (n▸e)
 have :=n k e;have :=o.size;omega
theorem aqg{rest:List Oper}(e:N.guard=none)(s x:Operand)(f:N.op=.call {callee:=.builtin .append,args:= #[s,x],argTypes:= #[223,223]})(B:Nat)(v:Value)(l:List (Nat×Nat))(y:Nat×Nat)(k:I.eval s=v)(m:ld B c v l)(g:Nat)(n:I.eval x=aa g 1 1)(o:c.heap[g]?=some (.cells #[A y.1,A y.2] 258))(F:l.length<1000000)(p:B<=c.heap.size)(h:∀a b,ld B b a (l++[y])->c.grownBy b v.ownBlock->lB c v a->wpList prog L M rest (I.put N.dst a) b):wpList prog L M (N::rest) I c:=by
 refine wpList_plain e λ_ q=> ?_
 obtain⟨i,r,t,w,z⟩:=qH (show(prog.info? 258).map (λi=>(i.zero,i.size,i.bytes))=some (some (.agg #[A 0,A 0]),2,16) by kernel_rfl);obtain⟨a,b,C,Q,D,E⟩:=Tp (P:=prog) c B 223 N.type 258 i _ 2 16 underlying223 r t w z rfl (by omega) v l.length (l.flatMap xy) m (H g) 1 1 (xy y) rfl
  (λj u d=>by
   have :((H g):Addr).add j=(K g j):=by unfold Addr.add;simp_all
   rw[this];exact Xp o j u d) (λu d=>by simp[xy]at d;rcases d with rfl|rfl<;>rfl) (by unfold maxLen;omega) (by omega) p
 unfold Oper.wp execOp;simp only[f,resolve,invoke,builtin,mL,xL,oK,KW,ip,uV,k,n,C];exact q _ _ (h a b (by unfold ld;simp_all) D E)
theorem aqh(h:c.ownsRow P z b (aa j v D) v w)(e:a<=v):c.ownsRow P z b (aa j a D) a (w.take (a*b)):=by
 refine⟨by rw[gU,h.1];simp_all,?_⟩;rcases h.2 with⟨d,_⟩|⟨n,o,f,d,g,i,p,k,l,m⟩
 .simp at d
 obtain⟨rfl,rfl⟩:=d;refine .inr ⟨j,D,f,rfl,g,i,by omega,k,l,?_⟩;rw[<-m,Gb,KX (wn _ e)]
theorem aeC:∀(l:List gM) (m:Nat),(l.flatMap gR).take (m*3)=(l.take m).flatMap gR
 |[],m=>by simp
 |x::l,0=>by simp
 |x::l,m+1=>by rw[jI,af8,jI,show(m+1)*3=(gR x).length+m*3 by simp[gR];omega,atT,aeC l m]
theorem nG.mono{w v}{B':Nat}(h:nG a w v s)(c:B'<=a):nG B' w v s:=⟨ii h.row c,λm b=>⟨(h.iR m b).1,(h.iR m b).2.1,(h.iR m b).2.2.1,ii (h.iR m b).2.2.2 c⟩,h.kD⟩
theorem nG.take{B w b}{g c:Nat}(h:nG B w (aa g b.length c) b){m:Nat}(d:m<=b.length):nG B w (aa g m c) (b.take m):=by refine⟨?_,λa e=>h.iR a (mo e),h.kD.sublist (Y7 _ _)⟩;unfold B4;rw[gU,KX d,<-aeC];exact aqh h.row d
def Xx (B:Nat) (W wr:World) (v n:Value) (p:Nat×Nat->Bool) (q:List (Nat×Nat)):Prop:=∃b c a,v=.slice b (List.length (α:=gM) a) c/\n=A (q.length:Nat)/\nG B wr v a/\a.map gM.p=we p q/\Below B W wr
theorem aqi {x:ef} (z:c3 c j e h i a d x) (s:Nat) (hc:s<a) {W:List Nat} (aC:lL 0 c q W) (hlen:W.length=a) (ah:∀n∈W,n<=1000):
  O 179 #[Z j,A s,q] c λB w'=>∃v M,B=ad v/\nG c.heap.size w' v M/\M.map gM.p=tM a (λt=>W.getD t 0) (d.ai s) (d.df s)/\J c w':=by
 have hN:=z.cm.bN.hN;have ew:=ag (show ∀t,t<a->d.ai s t<=60 from λt hi=>cd (z.cm.bN.eb s t hc hi) (z.cm.bN.cw t hi));obtain⟨dy,fy,a0,bw,ck,bm,a2,bq,a3,ce,av,Cr,h4,eh,dN,dm,hK,aD,cY,gu,n3,Hs,Ka,Xy,r0,Ai,_,_,_⟩:=z.B5 hc;obtain⟨dc,ma⟩:∃dc,dc=(d.en s).length:=⟨_,rfl⟩;rw[<-ma]at dN;have gX:c.cell? (H j)=some (A a):=by simp[World.cell?,z.cm.bN.aP]
 unfold lL at aC;rw[hlen]at aC;obtain⟨awh,mT,Ih,hh4,hh5,VL⟩:=bz aC;obtain⟨fP,rfl⟩:=VL s hc;subst Ih;have CJ:=ag (show ∀l,l<a->c.cell? (K fP l)=some (A (W.getD l 0:Nat)) from λl ao=>by have :=jl (f:=pU) (k:=1) (λ_=>rfl) aC (by omega) l (by omega) 0 (by omega);simp only[pU,xO,r9,Aw]at this;rw[this,OK,uX (by omega)];rfl)
 have RS:=ag (show ∀l,l<a->W.getD l 0<=1000 from λl ao=>by rw[OK,uX (by omega)];exact ah _ (dB _))
 obtain⟨cF,DN⟩:∃cF:Nat->Nat,cF=λt=>W.getD t 0:=⟨_,rfl⟩
 rw[<-DN];have CJ:=ag (show ∀l,l<a->c.cell? (K fP l)=some (A (cF l:Nat)) from λl ao=>by rw[DN];exact CJ.o l ao);have RS:=ag (show ∀l,l<a->cF l<=1000 from λl ao=>by rw[DN];exact RS.o l ao);have Dd:=ag r0;have o1:=ag Ai;have qa:(0:Int)<=(s:Int):=by simp
 have jT:(s:Int)<(a:Int):=by omega
 obtain⟨p,au⟩:∃p:Nat×Nat->Bool,p=λf=>decide (d.df s f.1<f.2):=⟨_,rfl⟩
 have Xz:=ag au;obtain⟨ai,jE⟩:∃ai:Nat->Nat,ai=d.ai s:=⟨_,rfl⟩;have RT:=ag jE;have Ii:=ag (show J c (c.alloc (.cells #[aa a0 a bw,.slice ck dc bm,aa a2 a bq,aa a3 a ce] 225)) from aV c _);obtain⟨D,qL⟩:∃D,D=c.alloc (.cells #[aa a0 a bw,.slice ck dc bm,aa a2 a bq,aa a3 a ce] 225):=⟨_,rfl⟩;have qi:=ag (show D.heap[c.heap.size]?=some (.cells #[aa a0 a bw,.slice ck dc bm,aa a2 a bq,aa a3 a ce] 225) by rw[qL];exact bZ c _);have RU:=ag (show D.heap.size=c.heap.size+1 by rw[qL];simp);rw[<-qL]at Ii;have aeD:=λn:Nat=>(show n<100000->IntKind.i64.wrap ((n:Int).tmod 8)=((n%8:Nat):Int) from λhn=>by rw[mN _ (by rw[S7 (by omega)];omega)];rfl)
 have PQ:=ag aeD;clear z aC ah r0 Ai av aD cY gu n3 VL DN au jE aeD ma;go_enter func179,ntmps179;go_upto_block 0 with fail
 rw[<-qL];go_cut [7,9,10] (λv n t wc=>Xx D.heap.size D wc v n p (n8 cF ai a))
 case first =>
  go_wp2_with fail
  go_loopw [7,9,10] (λv n t wr=>∃l:Nat,l<=a/\t=A l/\Xx D.heap.size D wr v n p (n8 cF ai l)) (λ_ _ t _=>a-(intOf t).toNat)
  case atStart=>exact⟨0,b6 _,rfl,none,0,[],rfl,by simp[n8],nG.nil _ _,by simp[n8,we,chunks],ca _ _⟩
  case round=>
   obtain⟨l,ao,rfl,X,P,M,rfl,rfl,E,F,I⟩:=hrel;have Kp:=bp Ii.o I;have R:=(I.block _ (by rw[RU.o];omega)).trans qi.o;have RV:=ak Kp gX;by_cases Y:l<a
   .have ve:=ak Kp (CJ.o l Y);have hdb:=RS.o l Y;obtain⟨aP,XA⟩:∃aP,aP=cF l:=⟨_,rfl⟩;rw[<-XA]at ve hdb;have Fh:(0:Int)<=(l:Int):=kG _;have HI:(l:Int)<(a:Int):=by omega
    have L:=ag E;have N:=ag F;have eO:=ag I;have RW:=ag XA;clear E F I R XA;go_wp2_with fail
    go_loopw [7,9,11] (λv n C kO=>∃r:Nat,r<=ai l-cF l/\C=A ((aP:Int)+1+(r:Int))/\Xx D.heap.size D kO v n p (n8 cF ai l++(List.range r).map λr=>(l,cF l+1+r))) (λ_ _ C _=>ai l+1-(intOf C).toNat)
    case atStart=>exact⟨0,b6 _,by simp,X,P,M,rfl,by simp,L.o,by simpa using N.o,eO.o⟩
    case round=>
     obtain⟨r,aB,rfl,XB,XC,NB,rfl,rfl,Bj,XD,RX⟩:=hrel;obtain⟨w,aw⟩:∃w,w=n8 cF ai l++(List.range r).map λr=>(l,cF l+1+r):=⟨_,rfl⟩
     rw[<-aw]at XD⊢;have Df:w.length<=300:=by
      have h1:=aeA (cF:=cF) (ai:=ai) (b:=60) (n:=l) λcz de=>by rw[RT.o];exact ew.o cz (by omega)
      have h2:=ew.o l Y;rw[<-RT.o]at h2;have ax:l*60<=180:=by omega
      rw[aw,dh,c2,ww];omega
     have aeE:=bp Ii.o RX;have R:=(RX.block _ (by rw[RU.o];omega)).trans qi.o;have c4:wr.cell? (V c 0)=some (aa a0 a bw):=by simp[World.cell?,R]
     have b8:wr.cell? (V c 2)=some (aa a2 a bq):=by simp[World.cell?,R]
     have hHd:=ak aeE (Dd.o l Y);have XE:=ak aeE (o1.o l Y);obtain⟨aj,kJ⟩:∃aj,aj=d.ai s l:=⟨_,rfl⟩;obtain⟨uO,nw⟩:∃uO,uO=d.df s l:=⟨_,rfl⟩;rw[<-kJ]at hHd;rw[<-nw]at XE;have MX:aj<=60:=by rw[kJ];exact ew.o l Y
     have zg:=ag (show ai l=aj by rw[RT.o,kJ]);have lZ:=ag nw;have XF:=ag Bj;have RY:=ag XD;have RZ:=ag RX;have j9:=ag aw;have BD:=ag aB;obtain⟨C,yh⟩:∃C:Nat,C=aP+1+r:=⟨_,rfl⟩;have Ef:(aP:Int)+1+(r:Int)=(C:Int):=by omega
     rw[Ef];have zo:=ag yh;clear Bj XD RX aw R kJ nw aB Ef yh;by_cases eb:C<=aj
     .have aqj:(C:Int)<=(aj:Int):=by omega
      go_upto_if 44 with fail
      go_cut [7] from 44 to 48 (λv FR=>∃X P init m,v=.slice X (List.length (α:=gM) init+1) P/\nG D.heap.size FR v (init++[m])/\J D FR/\init.map gM.p++[⟨false,[],m.p.oG++[(l,C)].filter p⟩]=we p (w++[(l,C)])/\m.p.oG.length<=300/\init.length<=300)
      case first =>
       have kL:NB.length<=300:=by have :=kq List.length RY.o;rw[c2,ap9]at this;rw[this];unfold chunks;omega
       by_cases JW:w.length%8=0
       .have hb8:((w.length:Int)%8==0)=true:=by simp;omega
        have b9:=ag (show J D (wr.alloc (.cells #[.bool false,.slice none 0 0,.slice none 0 0] 251)) from RZ.o.alloc RZ.o.size _);have Ju:=ag (XF.o.ak (aV wr (.cells #[.bool false,.slice none 0 0,.slice none 0 0] 251)));go_wp2_with (at_builtin;(refine Nq rfl (.tmp 45) (.tmp 47) rfl D.heap.size (.slice XB NB.length XC) NB [Ig] rfl Ju.o.row (aa wr.heap.size 1 1) rfl (Xn (m:=Ig) rfl (bZ wr _)) (λu hu=>by simp[Ig,gR]at hu;rcases hu with rfl|rfl<;>rfl) (by simp;omega) b9.o.size ?_;intro v4 w4 hM S;have FS:=ag (Ju.o.push hM S);have hZ:=ag (b9.o.grown S b9.o.size (λk hk=>(cX Ju.o.row k hk).1));obtain⟨a4,lo,rS,yg,ns,rj⟩:=bz hM;rw[dh]at rS;subst rS;clear hM S yg ns rj))
        all_goals go_meet
        all_goals exact⟨a4,lo,NB,Ig,rfl,FS.o,hZ.o,by rw[RY.o,aqc JW];rfl,by simp[Ig],kL⟩
       have hb8:((w.length:Int)%8==0)=false:=by simp;omega
       obtain⟨ms,m,nu,pf,nY⟩:=aqd (p:=p) JW (l,C);have F:=RY.o;rw[nu]at F;obtain⟨init,y,Bi,Ft,U⟩:=atQ.1 F;obtain⟨m',eU,xt⟩:∃m',y=[m']/\m'.p=⟨false,[],m⟩:=by
        match y,U with
        |[m'],U=>exact⟨m',rfl,by simpa using U⟩
        |[],U=>simp at U
        |m1::m2::y,U=>simp at U
       subst eU Bi;have du:=ag (aN pf (aN Ft xt));have U7:=ag (show m.length<=300 by omega);clear nu pf nY F Ft U xt;rw[dh]at kL⊢;go_wp2;go_meet
       refine⟨XB,XC,init,m',by simp,by simpa using XF.o,RZ.o,?_,?_,?_⟩
       .rw[du.o.1,du.o.2.1,du.o.2.2]
       .rw[du.o.2.2];exact U7.o
       simp at kL;omega
      case rest=>
       obtain⟨X,P,init,m,rfl,E,I,F,CX,kv⟩:=hcut;have aqk:=bp Ii.o I;have R:=(I.block _ (by rw[RU.o];omega)).trans qi.o;replace b8:wc.cell? (V c 2)=some (aa a2 a bq):=by simp[World.cell?,R]
       replace XE:=ak aqk (o1.o l Y);rw[<-lZ.o]at XE;have fl:=E.row;unfold B4 at fl;rw[dh]at fl;obtain⟨ni,xY,zH,mg,ka,jM⟩:=bz fl;unfold maxLen at ka;simp only[oO,qJ,wu]at zH;obtain⟨rfl,rfl⟩:=zH;obtain⟨Q,rfl⟩:=jM init.length (by simp);have fV:=jl (f:=gR) (k:=3) (λ_=>rfl) fl (by simp) init.length (by simp) 2 (by omega);rw[show(init++[m])[init.length]'(by simp)=m by simp]at fV;have XG:wc.cell? (K Q (init.length*3+2))=some m.cl:=fV;obtain⟨cm,rc,Nt,_,_,_⟩:=bz (E.iR m (by simp)).2.2.2;rw[Nt]at XG;obtain⟨cur,cH⟩:=b0 fl (g:=Q) rfl;have Dj:=ag cH;have R0:=aU cH;have L:=ag E;have eO:=ag I;have N:=ag F;have R1:=ag Nt;have ZL:(init.length:Int)<=300:=by omega
       have JA:n8 cF ai l++(List.range (r+1)).map (λr=>(l,cF l+1+r))=w++[(l,C)]:=by rw[mM,ga,<-kr,<-j9.o,zo.o,RW.o];rfl
       have R2:=ag JA;have HJ2:=ag (show r+1<=ai l-cF l by have :=zo.o;have :=zg.o;have :=RW.o;omega)
       clear E I F Nt fl fV R cH jM JA;by_cases nw:uO<C
       .have aql:(uO:Int)<(C:Int):=by omega
        have aH:[(l,C)].filter p=[(l,C)]:=by rw[Xz.o];simp only[F6,Zf];rw[<-lZ.o];simp[nw]
        rw[aH]at N;clear aH;have b9:=ag (show J D (wc.alloc (.cells #[A l,A C] 258)) from eO.o.alloc eO.o.size _);have Ij:=ag (show J wc (wc.alloc (.cells #[A l,A C] 258)) from aV wc _);have yB:=ag (show ld D.heap.size (wc.alloc (.cells #[A l,A C] 258)) (.slice cm m.p.oG.length rc) m.p.oG by rw[<-R1.o];exact dI (L.o.iR m (by simp)).2.2.2 Ij.o);have l9:=ag (show some Q≠(Value.slice cm m.p.oG.length rc).ownBlock from λB=>by rw[<-R1.o]at B;obtain⟨hE,rq⟩:=b0 (L.o.iR m (by simp)).2.2.2 B.symm;exact absurd (cQ rq Dj.o) (by decide))
        go_wp2_with (at_builtin;(refine aqg rfl (.tmp 67) (.tmp 71) rfl D.heap.size (.slice cm m.p.oG.length rc) m.p.oG (l,C) rfl yB.o wc.heap.size rfl (bZ wc _) (by omega) b9.o.size ?_;intro v4 w4 hM S iu;have gC:=((S.block Q (c0 R0 Ij.o.size) l9.o).trans (Ij.o.block Q R0));replace XG:=Xq gC XG;have xX:=cV (gC.trans Dj.o) (init.length*3+2);have hZ:=ag (b9.o.grown S b9.o.size (λk hk=>(cX yB.o k hk).1));have fU:=ag hM;have mE:=ag S;have ny:=ag iu;clear hM S iu gC;obtain⟨a4,lo,rS,yg,ns,rj⟩:=bz fU.o;subst rS;clear yg ns rj))
        go_roundw
        case rel=>
         have aeF:=L.o.add rfl Ij.o fU.o (by rw[R1.o];exact mE.o) (by rw[R1.o];exact ny.o);rw[dh]at aeF;refine⟨r+1,HJ2.o,by have :=zo.o;congr 1;omega,some (H Q),P,_,?_,?_,aeF,?_,hZ.o.setCell (cX L.o.row Q rfl).1 _⟩
         .rw[dh];rfl
         .rw[R2.o,dh];rfl
         rw[R2.o,<-N.o,ga];rfl
        case measure=>have :=zg.o;simp[intOf];omega
       have aql:¬(uO:Int)<(C:Int):=by omega
       have aH:[(l,C)].filter p=[]:=by rw[Xz.o];simp only[F6,Zf];rw[<-lZ.o];simp[nw]
       rw[aH,oM]at N;clear aH;go_wp2;go_roundw
       case rel=>
        obtain⟨m1,m2,m3,m4⟩:=L.o.iR m (by simp);refine⟨r+1,HJ2.o,by have :=zo.o;congr 1;omega,some (H Q),P,init++[m],?_,?_,L.o,?_,eO.o⟩
        .rw[dh];rfl
        .rw[R2.o,dh];rfl
        rw[R2.o,<-N.o,ga,SG];congr 2;rw[<-m2,<-m3]
       case measure=>have :=zg.o;simp[intOf];omega
     have aqj:¬(C:Int)<=(aj:Int):=by omega
     go_wp2;go_roundw
     case rel=>
      refine⟨l+1,by omega,by go_num,XB,XC,NB,rfl,?_,XF.o,?_,RZ.o⟩
      .have Aj:r=ai l-cF l:=by have :=BD.o;have :=zo.o;have :=zg.o;have :=RW.o;omega
       rw[Xw,<-Aj,<-j9.o]
      have Aj:r=ai l-cF l:=by have :=BD.o;have :=zo.o;have :=zg.o;have :=RW.o;omega
      rw[Xw,<-Aj,<-j9.o];exact RY.o
     case measure=>simp[intOf];omega
   have BU:l=a:=by omega
   subst BU;have L:=ag E;have N:=ag F;have eO:=ag I;clear E F I;go_wp2;go_meet
   exact⟨X,P,M,rfl,rfl,L.o,N.o,eO.o⟩
 case rest=>
  obtain⟨X,P,M,rfl,rfl,E,F,I⟩:=hcut;have Kp:=bp Ii.o I;have wS:=ag Kp;have N:=ag (show(M.map gM.p).take 3=tM a cF (d.ai s) (d.df s) by rw[F,Xz.o,RT.o,aqe]);have HWZ:=ag (show c.heap.size<=D.heap.size by rw[RU.o];omega);by_cases ax:3<M.length
  .have Up:(3:Int)<(M.length:Int):=by omega
   obtain⟨ni,xY,zH,mg,ka,jM⟩:=bz E.row;unfold maxLen at ka;simp only[oO,qJ]at zH;obtain⟨rfl,rfl⟩:=zH;obtain⟨Q,rfl⟩:=jM 0 (by omega);have L:=ag (E.take (m:=3) (by omega));clear E F I Kp jM;go_wp2;go_ret
   exact⟨_,_,rfl,L.o.mono HWZ.o,by rw[Cd];exact N.o,wS.o⟩
  have Up:¬(3:Int)<(M.length:Int):=by omega
  have L:=ag E;clear E F I Kp;go_wp2;go_ret
  refine⟨.slice X M.length P,rfl,M,L.o.mono HWZ.o,?_,wS.o⟩;rw[<-N.o,kp (by rw[c2];omega)]
def Ak (N:Nat) (P:Nat->List bT) (m:la):Prop:=(m.q=true->m.cF.length=N/\∀n∈m.cF,n<=1000)/\∀f∈m.oG,f.1<N/\f.2<=(P f.1).length
theorem aeG(a:Bool):∀(b:List la) (l:List la) (u:la),pV a l (b++[u])=if a=true\/12<=(pV a l b).length then pV a l b else pV a l b++[u]
 |[],l,u=>rfl
 |v::b,l,u=>by rw[p5];exact aeG a b _ u
theorem aqm{sh:Bool}{l us:List la}{i:Nat}(a:i<us.length):pV sh l (us.take (i+1))=if sh=true\/12<=(pV sh l (us.take i)).length then pV sh l (us.take i) else pV sh l (us.take i)++[us[i]]:=by rw[lx a,aeG]
theorem aeH(b:Bool):∀(a l:List la),l.length<=12->(pV b l a).length<=12
 |[],l,h=>h
 |u::a,l,h=>by
  refine aeH b a _ ?_;split
  .exact h
  rename_i e
  rw[dh,wu];omega
theorem aqn(S:bP)(c d:Nat)(a b:List la):ht (ht S c d a) c d b=ht S c d b:=by unfold ht;simp only[bL,Ic]
theorem aqo(S:bP)(c d:Nat):ht S c d (S.ms c d)=S:=by unfold ht;rw[yR,yR]
def xG (S:bP) (c d:Nat) (l:Nat->Nat) (k:Nat):bP:={S with bC:=upd S.bC c (upd (S.bC c) d λi=>if i<k then max (S.bC c d i) (l i) else S.bC c d i)}
theorem aqp(S:bP)(c d:Nat)(l:Nat->Nat):xG S c d l 0=S:=by
 unfold xG;have e:(λi=>if i<0 then max (S.bC c d i) (l i) else S.bC c d i)=S.bC c d:=by rfl
 rw[e,yR,yR]
theorem aqq(S:bP)(c d:Nat)(l:Nat->Nat)(k:Nat)(h:S.bC c d k<l k):Nr (xG S c d l k) c d k (l k)=xG S c d l (k+1):=by
 unfold Nr xG;simp only[bL,Ic];congr 3;funext i;by_cases e:i=k
 .subst e;rw[bL,bn (by omega)];omega
 rw[ch _ _ e];by_cases a:i<k
 .rw[bn a,bn (by omega)]
 rw[a7 a,a7 (by omega)]
theorem aqr(S:bP)(c d:Nat)(l:Nat->Nat)(k:Nat)(h:¬S.bC c d k<l k):xG S c d l k=xG S c d l (k+1):=by
 unfold xG;congr 3;funext i;by_cases e:i=k
 .simp_all
 by_cases a:i<k
 .rw[bn a,bn (by omega)]
 rw[a7 a,a7 (by omega)]
theorem aqs(S:bP)(c d:Nat)(l:Nat->Nat)(k:Nat):(xG S c d l k).bC c d k=S.bC c d k:=by unfold xG;simp only[bL];simp
theorem aqt(S:bP)(c d:Nat)(l:Nat->Nat)(N:Nat)(h:∀i,N<=i->l i=0):xG S c d l N=yN S c d l:=by
 unfold xG yN;congr 3;funext i
 simp_all
def l7 (r N:Nat) (F L I c d a:Nat->Prop) (f:Nat->Value) (w b:World) (g:bP) (e:ef):Prop:=c3 b r c d a N g e/\dp (sU F L I) (sU c d a) w b/\(∀k,I k->a k/\b.heap[k]?=w.heap[k]?)/\e.vl=f
theorem l7.to{w}(g:l7 a b e h i C E F y w c d f):j7 a b e h i y w c d:=⟨C,E,F,f,g⟩
theorem l7.trans{r N F L I d e f g h i j w l m q n o p}(a:l7 r N F L I d e f j w l q o)(b:l7 r N d e f g h i o.vl l m n p):l7 r N F L I g h i j w m n p:=
 ⟨b.1,a.2.1.trans b.2.1,λk c=>⟨(b.2.2.1 k (a.2.2.1 k c).1).1,(b.2.2.1 k (a.2.2.1 k c).1).2.trans (a.2.2.1 k c).2⟩,b.2.2.2.trans a.2.2.2⟩
theorem l7.dn{w}(a:l7 b j e h i C E F y w c d f)(g:J c l):l7 b j e h i C E F y w l d f:=
 ⟨a.1.ak g,a.2.1.after g,λk m=>⟨(a.2.2.1 k m).1,(g.block k (a.1.cI k (a.2.2.1 k m).1)).trans (a.2.2.1 k m).2⟩,a.2.2.2⟩
theorem l7.know{o}(g:l7 D a e h C E F o y c l d f){i n:Nat}(p:b<a)(q:j<a)(r:f.yO b j=aa v a P):l7 D a e h C E F o y c (l.setCell (K v i) (A n)) (Nr d b j i n) f:=by
 obtain⟨t,u⟩:=g.1.apP p q (i:=i) (n:=n) r;have w:(f.yO b j).ownBlock=some v:=by rw[r];rfl
 refine g.trans ⟨t,u,λk s=>⟨s,dE λm=> ?_⟩,rfl⟩;subst m;exact g.1.oa k s (g.1.nk b j p q k w)
theorem l7.RM (m:l7 D j i C E h e F y c l d f) (I:b<j) (L:a<j) {W:World} {o:gM} (M:J l Q) (N:aR (λg=>gr (f.hv b a)=some g) Q W) (R:ji W 251 3 k ((f.jF b a).length+1) ((f.jF b a++[o]).flatMap gR))
  (S:∀g,gr k=some g->gr (f.hv b a)=some g\/Q.heap.size<=g) (U:tL Q o) (t:∀g,o.oH.ownBlock=some g->¬h g/\¬e g/\c.heap.size<=g) (u:∀g,o.cl.ownBlock=some g->¬h g/\¬e g/\c.heap.size<=g) (X:f.vl b=aa v j P):
  ∃s w,l7 D j i C E h s w y c (W.setCell (K v (a*2+1)) k) (ht d b a (d.ms b a++[o.p])) (wa f b a k (f.jF b a++[o]))/\aR e l (W.setCell (K v (a*2+1)) k)/\∀g,s g->e g\/l.heap.size<=g:=by
 obtain⟨s,w,Y,r,x,c6,qw⟩:=m.1.aen I L M N R S U (λg q=>.inr ⟨(t g q).1,(t g q).2.1⟩) (λg q=>.inr ⟨(u g q).1,(u g q).2.1⟩) X;refine⟨s,w,⟨Y,⟨r.os.trans m.2.1.os,r.tape.trans m.2.1.tape,r.output.trans m.2.1.output,cd m.2.1.size r.size,λg q z=> ?_,?_⟩,λg q=>⟨c6 g (m.2.2.1 g q).1,(r.other g (m.1.cI g (m.2.2.1 g q).1) (m.1.oa g (m.2.2.1 g q).1)).trans (m.2.2.1 g q).2⟩,m.2.2.2⟩,r,x⟩
 .rw[r.other g (c0 q m.2.1.size) λn=> ?_]
  .exact m.2.1.other g q z
  rcases m.2.1.sub g (.inr (.inl n)) with B|B
  .exact z B
  omega
 rintro g (n|n|n)
 .exact m.2.1.sub g (.inl n)
 .rcases x g n with n|n
  .exact m.2.1.sub g (.inr (.inl n))
  exact .inr (cd m.2.1.size n)
 rcases qw g n with n|n|n
 .exact m.2.1.sub g (.inr (.inr n))
 .exact .inr (t g n).2.2
 exact .inr (u g n).2.2
theorem nG.stay(h:nG a c k s)(e:∀b,k.ownBlock=some b->l.heap[b]?=c.heap[b]?)(f:∀m∈s,∀b,m.cl.ownBlock=some b->l.heap[b]?=c.heap[b]?):nG a l k s:=⟨cu h.row e,λm d=>⟨(h.iR m d).1,(h.iR m d).2.1,(h.iR m d).2.2.1,cu (h.iR m d).2.2.2 (f m d)⟩,h.kD⟩
theorem aeI {N:Nat} {S:bP} {x:ef} (h:c3 c a e C E N S x) (b d:Nat) (z:b<N) (B:d<N) (aZ:b≠d) {p:la} {bH:List la} (fQ:S.ms b d=p::bH) (ok:Ak N S.P p) (wok:pY N S.P (S.en d)):
  O 156 #[Z a,A b,A d] c λr w'=>(∃u,r=ad u)/\j7 a N e C E x.vl c w' (pk N S b d):=by
 have hN:=h.cm.bN.hN;obtain⟨vZ,o5,gl,gp,RJ,Mf,avz,kL,aO,dN,dm⟩:=h.xE z B;have ce:c.cell? (K a 3)=some x.bc:=by simp[World.cell?,h.cm.bN.aP]
 rw[RJ]at ce;obtain⟨q7,lG,w,pX,mC⟩:=h.queue z B;rw[fQ]at mC pX w;simp only[iq]at mC pX w;obtain⟨g,off,rfl⟩:=mC (by omega);obtain⟨n,hn⟩:∃n,n=bH.length:=⟨_,rfl⟩;rw[<-hn]at w pX;rw[w]at dm;obtain⟨m,l,dM,au,hl,oD,f0,f1,f2,_⟩:=h.first z B fQ w hn
 obtain⟨B3,Q,rr,_,_,_⟩:=bz oD.1;obtain⟨nE,nF,n9,_,_,_⟩:=bz oD.2;have CU:=ag (h.l6 b d z B m (by rw[dM];simp));rw[rr]at f1;rw[n9]at f2;rw[au]at rr n9 f1 f2;obtain⟨dc,ma⟩:∃dc,dc=p.cF.length:=⟨_,rfl⟩;obtain⟨R,lj⟩:∃R,R=p.oG.length:=⟨_,rfl⟩;rw[<-ma]at f1 rr;rw[<-lj]at f2 n9;have FQ:=ag (aN rr n9);have En:=ag (aN ma lj);have Hu:=ag au;obtain⟨tP,xF⟩:∃tP,tP=p.q:=⟨_,rfl⟩;rw[<-xF]at f0;have XH:=ag xF;obtain⟨b5,nZ⟩:∃b5,b5=c.alloc (.cells #[.bool tP,.slice B3 dc Q,.slice nE R nF] 251):=⟨_,rfl⟩;have aJ:=ag (show J c b5 by rw[nZ];exact aV c _);have qi:=ag (show b5.heap[c.heap.size]?=some (.cells #[.bool tP,.slice B3 dc Q,.slice nE R nF] 251) by rw[nZ];exact bZ c _);have ci:(x.vl b).ownBlock=some gl:=by rw[aO];rfl
 obtain⟨cur,cH⟩:=b0 (h.hl b z) ci;have j8:=cV (bB cH aJ.o) (d*2+1);have dG:=aU cH;have h1:=h.ak aJ.o;have HTO:=ag (show ∀lU:Option Addr,(0<lG-1->lU=some (K g (off+3)))->j7 a N e C E x.vl b5 (b5.setCell (K gl (d*2+1)) (.slice lU n (lG-1))) (ht S b d bH) from λlU aE=>by
  obtain⟨_,_,_,_,_,_,_,_,_,fK⟩:=h1.first z B fQ w hn
  exact fK aO lU aE)
 have aT:=ag h;have sV:=ag fQ;have nR:=ag ok;have Ny:=ag wok;have kL1:=ak aJ.o avz;have k21:=ak aJ.o dm;have qa:(0:Int)<=(b:Int):=by simp
 have jT:(b:Int)<(N:Int):=by omega
 have Fh:(0:Int)<=(d:Int):=by simp
 have HI:(d:Int)<(N:Int):=by omega
 have iN:c.heap.size≠gl:=by omega
 clear h h1 cH ci oD rr n9 au hl dM hn ma lj xF fQ ok wok RJ w mC aO;go_enter func156,ntmps156;go_upto_region 2 with fail
 rw[<-nZ];clear nZ;go_cut [33] from 25 to 35 (λv Nw=>j7 a N e C E x.vl b5 Nw (ht S b d bH))
 case first =>
  go_wp2
  all_goals go_meet
  all_goals first
   |exact HTO.o _ (λ_=>rfl)
   |(obtain rfl:lG=1:=(by omega);exact HTO.o (some (K g off)) (λr=>by omega))
 case rest=>
  obtain⟨kA,mZ,pO,x2,vI,qs,qw,aeJ⟩:=hcut;have s:l7 a N e C E kA mZ pO x.vl c wc (ht S b d bH) x2:=⟨vI,qs.before aJ.o,λk D=>⟨(qw k D).1,(qw k D).2.trans (aJ.o.block k (aT.o.cI k D))⟩,aeJ⟩;have hz1:=aJ.o.size;have F:=(qs.other _ (aU qi.o) (λr=>by
   rcases r with r|r|r
   .exact absurd (aT.o.cm.lt _ r) (by omega)
   .exact absurd (aT.o.lt _ r) (by omega)
   exact absurd (aT.o.cI _ r) (by omega))).trans qi.o
  have c4:wc.cell? (V c 0)=some (.bool tP):=by simp[World.cell?,F]
  have bK:wc.cell? (V c 1)=some (.slice B3 dc Q):=by simp[World.cell?,F]
  have b8:wc.cell? (V c 2)=some (.slice nE R nF):=by simp[World.cell?,F]
  have oD:=CU.o.1.fW CU.o.2.1 CU.o.2.2 λk D=>(s.2.2.1 k D).2
  have aeK:=ag F;have xH:=ag s;have Kj:=ag oD;clear F s oD vI qs qw aeJ avz kL1 dN dm k21 f0 f1 f2 ce j8;cases tP with
  |false=>
   have NC:ld 0 wc (.slice nE R nF) p.oG:=by rw[<-FQ.o.2,<-Hu.o];exact Kj.o.2
   have fs:=ag (ap1 xH.o.1 d B (show pY N (ht S b d bH).P ((ht S b d bH).en d) from Ny.o) NC (λk D=>(xH.o.2.2.1 k (CU.o.2.2 k (by rw[FQ.o.2];exact D))).1) nR.o.2);clear NC;go_wp2_with fail
   refine fs.o.mono ?_;rintro r w3 ⟨⟨u,rfl⟩,ut,ND,Fy,L,ax⟩;have avX:=ag (xH.o.trans ax);clear ax;go_wp2
   (try simp only[Exit.inBlock,Exit.then])
   refine ey (Iw rfl _ _ _) rfl ?_;refine⟨⟨_,rfl⟩,?_⟩;unfold pk;rw[sV.o];simp only;rw[a7 (by rw[<-XH.o];simp)];exact avX.o.to
  |true=>
   obtain⟨hz,Gg⟩:=nR.o.1 XH.o.symm;obtain⟨I,DN⟩:∃I:Nat->Nat,I=λi=>p.cF.getD i 0:=⟨_,rfl⟩
   have CJ:=ag DN;obtain⟨rfl⟩:dc=N:=by rw[En.o.1];omega
   have Kq:lL 0 c (.slice B3 N Q) p.cF:=by rw[<-FQ.o.1,<-Hu.o];exact CU.o.1.1
   unfold lL at Kq;rw[hz]at Kq;obtain⟨ma',mc',zH,nu,pf,nY⟩:=bz Kq;simp only[oO,qJ]at zH;obtain⟨rfl,rfl⟩:=zH;obtain⟨M,rfl⟩:=nY b z;have aeL:=CU.o.2.1 M (by rw[FQ.o.1];rfl);have HHC:=ag (show ∀i,i<N->c.cell? (K M i)=some (A (I i:Nat)) from λi hi=>by have :=jl (f:=pU) (k:=1) (λ_=>rfl) Kq (by rw[hz]) i (by omega) 0 (by omega);simp only[pU,xO,r9,Aw]at this;rw[this,DN];simp only;rw[OK,uX (by omega)];rfl)
   have HRH:=ag Kq;have HGI:=ag aeL;have RS:=ag (show ∀i,i<N->I i<=1000 from λi hi=>by rw[DN];simp only;rw[OK,uX (by omega)];exact Gg _ (dB _))
   have zC:=ag (aN hz Gg);obtain⟨dy,fy,a0,bw,ck,bm,a2,bq,a3,ce,av,Cr,h4,_,_,_,hK,_,_,_,_,_,_,JY,_,_,h9,_,_⟩:=xH.o.1.B5 B;have ja:=h9 b z;have R3:=xH.o.1.qu d b B z;unfold lL at R3;rw[c2,ww]at R3;obtain⟨DJ,gJ,u9,dK,dx,jp⟩:=bz R3;obtain⟨gk,rfl⟩:=jp b z;rw[u9]at ja;have II:=ag u9;obtain⟨U,I3⟩:∃U,U=ht S b d bH:=⟨_,rfl⟩;rw[<-I3]at xH;have iQ:=ag I3;have bE:=ag (show wc.heap[c.heap.size]?=some (.cells #[.bool true,aa M N Q,.slice nE R nF] 251) from aeK.o);clear Kq nY aeL Gg DN av h9 R3 jp u9 I3 aeK b8;go_upto_block 0 with fail
   go_cut [9] (λi wd=>l7 a N e C E kA mZ pO x.vl c wd (yN U d b I) x2/\wd.heap[c.heap.size]?=some (.cells #[.bool true,aa M N Q,.slice nE R nF] 251))
   case first =>
    go_wp2_with fail
    go_loopw [9] (λi wr=>∃k:Nat,k<=N/\i=A k/\l7 a N e C E kA mZ pO x.vl c wr (xG U d b I k) x2/\wr.heap[c.heap.size]?=some (.cells #[.bool true,aa M N Q,.slice nE R nF] 251)) (λi _=>N-(intOf i).toNat)
    case atStart=>exact⟨0,b6 _,rfl,by rw[aqp];exact xH.o,bE.o⟩
    case round=>
     obtain⟨k,D,rfl,s,F⟩:=hrel;have fT:wr.cell? (H a)=some (A N):=by simp[World.cell?,s.1.cm.bN.aP]
     have W:=ag s;have a1:=ag F;by_cases aL:k<N
     .have XI:wr.cell? (V c 1)=some (aa M N Q):=by simp[World.cell?,F]
      have Eh:=Xq (s.2.2.1 M HGI.o).2 (HHC.o k aL);have NE:=s.1.qu d b B z;unfold lL at NE;rw[c2,ww,II.o]at NE;have z6:=jl (f:=pU) (k:=1) (λ_=>rfl) NE (by simp) k (by simpa using aL) 0 (by omega);simp only[pU,xO,r9,Aw,pn,agb,aqs]at z6;obtain⟨auU,R4⟩:=b0 NE (g:=gk) rfl;have j8:=cV R4 k;obtain⟨mg,XJ⟩:∃mg,mg=I k:=⟨_,rfl⟩;obtain⟨NF,XK⟩:∃NF,NF=U.bC d b k:=⟨_,rfl⟩;rw[<-XJ]at Eh;rw[<-XK]at z6;have VA:=ag (show c.heap.size≠gk from λr=>by rw[r]at F;exact absurd (cQ F R4) (by decide))
      have e2:=ag (aN XJ XK);have HCK:=ag R4;have jY:(0:Int)<=(k:Int):=by simp
      have ej:(k:Int)<(N:Int):=by omega
      clear s F NE R4 XJ XK;by_cases oT:NF<mg
      .have Nx:(NF:Int)<(mg:Int):=by omega
       go_wp2_with fail
       go_quiet (fail)
       have eY:J wr (wr.drewN nq):=io (ca _ _) _;have HYQ:=ag (W.o.dn eY);have JO:=ag (bB a1.o eY);generalize wr.drewN nq=iJ at eY HYQ JO⊢;replace XI:=ak eY XI;replace Eh:=ak eY Eh;replace z6:=ak eY z6;have AL:=cV (bB HCK.o eY) k;clear eY j8;go_wp2;go_roundw
       case rel=>refine⟨k+1,by omega,by go_num,?_,(dE VA.o).trans JO.o⟩;rw[<-aqq U d b I k (by rw[<-e2.o.1,<-e2.o.2];omega),<-e2.o.1];exact HYQ.o.know B z II.o
       case measure=>simp[intOf];omega
      have Nx:¬(NF:Int)<(mg:Int):=by omega
      go_wp2_with fail
      go_quiet (fail)
      go_wp2;go_roundw
      case rel=>refine⟨k+1,by omega,by go_num,?_,bB a1.o (io (ca _ _) _)⟩;rw[<-aqr U d b I k (by rw[<-e2.o.1,<-e2.o.2];omega)];exact W.o.dn (io (ca _ _) _)
      case measure=>simp[intOf];omega
     have RQ:k=N:=by omega
     subst RQ;clear s F;go_wp2;go_meet
     rw[<-aqt U d b I k λi hi=>by rw[CJ.o];simp only;rw[OK,S2 (by omega)];rfl];exact⟨W.o,a1.o⟩
   case rest=>
    obtain⟨s,F⟩:=hcut;obtain⟨y,NG⟩:∃y,y=yN U d b I:=⟨_,rfl⟩;rw[<-NG]at s;have hb:d≠b:=by omega
    have fp:y.sh d b=S.sh d b:=by rw[NG,iQ.o];rfl
    have pp:y.ms d b=S.ms d b:=by rw[NG,iQ.o];unfold yN ht;simp only[ch _ _ hb]
    have gE:=ag (show pk N S b d=ht y d b (pV (y.sh d b) (y.ms d b) (tM N I (y.ai d) (y.df d))) by unfold pk;rw[sV.o];simp only;rw[bn XH.o.symm,fp,pp,NG,iQ.o,CJ.o];rfl)
    have XI:wc.cell? (V c 1)=some (aa M N Q):=by simp[World.cell?,F]
    obtain⟨gL2,cL2,Kr,cl2,aeM,auV,kL2,auW,ka,_,_⟩:=s.1.xE B z;have c32:wc.cell? (K a 3)=some x2.bc:=by simp[World.cell?,s.1.cm.bN.aP]
    rw[aeM]at c32;have NC:lL 0 wc (aa M N Q) p.cF:=by
     unfold lL;rw[zC.o.1];exact cu HRH.o λg aq=>by
      have r:M=g:=by simpa[Value.ownBlock]using aq
      subst r;exact(s.2.2.1 M HGI.o).2
    have dS:=ag (aqi s.1 d B NC zC.o.1 zC.o.2);rw[<-CJ.o]at dS;have W:=ag s;have HS:=ag ka;clear s F NG fp pp aeM ka NC;go_upto_block 2 with(go_at_call 179;refine dS.o.mono ?_;rintro r w4 ⟨v,t,rfl,X,il,hY⟩;have FS:=ag X;have aqu:=ag il;have hZ:=ag hY;obtain⟨cq,Ks,Ik,auX,aqv,aeN⟩:=bz X.row;subst Ik;unfold maxLen at aqv;have HVA:=ag aeN;clear X il hY aeN)
    have oZ:=ag (W.o.dn hZ.o);obtain⟨sh,fp⟩:∃sh,sh=y.sh d b:=⟨_,rfl⟩;obtain⟨us,R5⟩:∃us,us=t.map gM.p:=⟨_,rfl⟩;have yT:=ag (aN fp R5);have XL:=ag (show us.length=t.length by rw[R5,c2]);have aqw:=ag (show us=tM N I (y.ai d) (y.df d) by rw[R5];exact aqu.o);clear fp R5;have Mc:=hZ.o.size;have Fi:=W.o.2.1.size;have aeO:=ag (show ∀k,(∃m∈t,m.cl.ownBlock=some k)\/(Value.slice cq t.length Ks).ownBlock=some k->wc.heap.size<=k/\k<w4.heap.size from λk D=>by
     rcases D with⟨m,hm,D⟩|D
     .exact cX (FS.o.iR m hm).2.2.2 k D
     exact cX FS.o.row k D)
    go_wp2_with fail
    go_loopw [12] (λi wr=>∃k:Nat,k<=t.length/\i=A k/\∃fL I' x',l7 a N e C E kA fL I' x.vl c wr (ht y d b (pV sh (y.ms d b) (us.take k))) x'/\x'.vl=x2.vl/\nG wc.heap.size wr (.slice cq t.length Ks) t/\(∀k,fL k->mZ k\/w4.heap.size<=k)/\w4.heap.size<=wr.heap.size) (λi _=>t.length-(intOf i).toNat)
    case atStart=>exact⟨0,b6 _,rfl,mZ,pO,x2,by rw[Ga,show pV sh (y.ms d b) []=y.ms d b from rfl,aqo];exact oZ.o,rfl,FS.o,λk D=>.inl D,bW _⟩
    case round=>
     obtain⟨k,D,rfl,ND,Fy,L,s,mP,X,XM,xb⟩:=hrel;by_cases aL:k<t.length
     .obtain⟨FU,NH⟩:∃FU,FU=ht y d b (pV sh (y.ms d b) (us.take k)):=⟨_,rfl⟩;rw[<-NH]at s;have Rw:FU.sh d b=sh:=by rw[NH,yT.o.1];rfl
      have Jq:FU.ms d b=pV sh (y.ms d b) (us.take k):=by rw[NH];unfold ht;simp only[bL]
      obtain⟨gL5,cL5,gl5,cl5,_,_,_,_,Kt,s5,wJ⟩:=s.1.xE B z;rw[mP,HS.o]at Kt;simp only[oO,po,tU,sb,qJ]at Kt;obtain⟨rfl,rfl⟩:=Kt;rw[Rw]at s5;obtain⟨R6,R7,EV,aeP,_⟩:=s.1.queue B z;have P6:=ag EV;obtain⟨Y,E8⟩:∃Y,Y=(FU.ms d b).length:=⟨_,rfl⟩;rw[<-E8]at EV aeP;rw[EV]at wJ;obtain⟨iF,rfl⟩:=HVA.o k aL;have fl:=X.row;unfold B4 at fl;have fV:∀j u,(gR t[k])[j]?=some u->j<3->wr.cell? (K iF (k*3+j))=some u:=λj u hu aB=>by have :=jl (f:=gR) (k:=3) (λ_=>rfl) fl rfl k aL j aB;rw[this];exact hu
      obtain⟨y1,y2,y3,y4⟩:=X.iR t[k] (dB _);obtain⟨XN,XO,NI,_,_,_⟩:=bz y4;obtain⟨NJ,NK⟩:∃NJ,NJ=t[k].p.oG.length:=⟨_,rfl⟩;rw[<-NK]at NI;have g0:wr.cell? (K iF (k*3))=some (.bool false):=fV 0 (.bool false) (by unfold gR;rw[y2];rfl) (by omega);have g1:=fV 1 (.slice none 0 0) (by unfold gR;rw[y1];rfl) (by omega);have g2:=fV 2 (.slice XN NJ XO) (by unfold gR;rw[NI];rfl) (by omega);have huk:us[k]'(by rw[XL.o];exact aL)=t[k].p:=by simp only[yT.o.2,pn]
      have sn:=aqm (sh:=sh) (l:=y.ms d b) (us:=us) (i:=k) (by rw[XL.o];exact aL);rw[huk,<-Jq,<-E8]at sn;have xh:=ag sn;have yA:=ag (aN E8 (aN Jq NH));have DO:=ag s;have XP:=ag X;have R8:=ag mP;have A1:=ag XM;have HYM:=ag (show gR t[k]=[.bool false,.slice none 0 0,.slice XN NJ XO] by unfold gR;rw[y1,y2,NI]);have XQ:=ag (aN y1 NI);have HYI:=ag (show tL wr t[k] from⟨by rw[y1,y3];exact hg _ _ _ _,ii y4 (b6 _)⟩);have HYB:=ag (show ∀q,t[k].cl.ownBlock=some q->¬kA q/\¬ND q/\c.heap.size<=q from λq w=>by
       obtain⟨bK,b8⟩:=aeO.o q (.inl ⟨_,dB _,w⟩);refine⟨λr=>absurd (W.o.1.cm.lt q r) (by omega),λr=> ?_,by omega⟩;rcases XM q r with r|r
       .exact absurd (W.o.1.lt q r) (by omega)
       omega)
      have jY:(0:Int)<=(k:Int):=kG _;have ej:(k:Int)<(t.length:Int):=by omega
      obtain⟨auY,XR⟩:=b0 (s.1.hl d B) (g:=Kr) (by rw[mP,HS.o];rfl);have Dj:=ag XR;have R0:=aU XR;clear s mP X XM fl fV y1 y2 y3 y4 NI NK huk sn E8 Jq NH Rw EV XR;cases sh with
      |true=>
       go_wp2;go_roundw
       case rel=>refine⟨k+1,by omega,by go_num,ND,Fy,L,?_,R8.o,XP.o,A1.o,xb⟩;rw[xh.o,bn (.inl rfl),yA.o.2.1,<-yA.o.2.2];exact DO.o
       case measure=>simp[intOf];omega
      |false=>
       by_cases iE:Y<12
       .have Ae:(Y:Int)<12:=by omega
        have FF:=ag (show L.hv d b=.slice R6 Y R7 by rw[P6.o,yA.o.1]);have sF:=ag (show(L.jF d b).length=Y by rw[yA.o.1,<-DO.o.1.pm d b B z,c2]);have Af:=ag (show ji wr 251 3 (.slice R6 Y R7) (L.jF d b).length ((L.jF d b).flatMap gR) by rw[<-FF.o];exact DO.o.1.aw d b B z);have l9:=ag (show gr (L.hv d b)≠some Kr from λr=>by obtain⟨hE,cD⟩:=(DO.o.1.aw d b B z).lt r;exact absurd (cQ Dj.o cD) (by decide))
        have auZ:=World.new_ne wr (K Kr (b*2+1)) wJ;have au0:Kr≠wr.heap.size:=by omega
        have b9:=ag (show J wr (wr.drew.alloc (.cells #[.bool false,.slice none 0 0,.slice XN NJ XO] 251)) from(gb wr).alloc (bW _) _);have C7:Kr<wr.drew.heap.size:=R0;have FP:=ag iE;go_wp2_with fail
        go_region_law (first
         |(refine Xg gR 3 56 247 251 (.agg #[.bool false,.slice none 0 0,.slice none 0 0]) (by kernel_rfl) underlying247 rfl (by omega) (λ_=>rfl) (by rfl) (.tmp 118) (.tmp 123) (by rfl) (.slice R6 Y R7) (L.jF d b) (by rfl) (Af.o.ak λk D=>b9.o.block k (by obtain⟨hE,cD⟩:=Af.o.lt D;exact aU cD)) wr.heap.size 1 (t[k]'aL) (by rfl) (by rw[HYM.o];exact No (bZ _ _)) (RL XQ.o.1 XQ.o.2) (by rw[sF.o];have :=FP.o;omega) (by rw[sF.o];have :=FP.o;unfold maxLen;omega) ?_;intro v6 w6 hM eF iu;rw[<-FF.o]at eF iu;have fU:=ag hM;have mE:=ag eF;have ny:=ag iu;have hr:=ag ((eF.other Kr (by simp;omega) l9.o).trans ((is _ _ C7).trans Dj.o));replace wJ:=eF.cell l9.o (ak b9.o wJ);clear hM eF iu;obtain⟨I8,n6c,rfl⟩:=fU.o.form;have xX:=cV hr.o (b*2+1)))
        all_goals go_wp2
        all_goals go_roundw
        all_goals first
         |(simp[intOf];omega)
         |(
          obtain⟨XS,XT,aqx,XU,hL6⟩:=DO.o.RM B z b9.o mE.o fU.o ny.o (HYI.o.ak b9.o) (λq w=>by rw[XQ.o.1]at w;cases w) HYB.o (by rw[R8.o];exact HS.o);have zk:∀q,((∃m∈t,m.cl.ownBlock=some q)\/(aa iF t.length Ks).ownBlock=some q)->q<wr.heap.size/\¬ND q:=λq w=>by
           obtain⟨bK,b8⟩:=aeO.o q w;refine⟨by omega,λr=> ?_⟩;rcases A1.o q r with r|r
           .exact absurd (W.o.1.lt q r) (by omega)
           omega
          refine⟨k+1,by omega,by go_num,XS,XT,wa L d b (.slice I8 ((L.jF d b).length+1) n6c) (L.jF d b++[t[k]]),?_,R8.o,XP.o.stay (λq w=>XU.other q (zk q (.inr w)).1 (zk q (.inr w)).2) (λm hm q w=>XU.other q (zk q (.inl ⟨m,hm,w⟩)).1 (zk q (.inl ⟨m,hm,w⟩)).2),λq w=> ?_,cd xb XU.size⟩
          .rw[xh.o,a7 (by have :=FP.o;simp;omega)];have n3:ht FU d b (FU.ms d b++[t[k].p])=ht y d b (FU.ms d b++[t[k].p]):=by
            conv=>lhs;rw[yA.o.2.2]
            rw[aqn,<-yA.o.2.2]
           rw[<-n3];exact aqx
          rcases hL6 q w with r|r
          .exact A1.o q r
          exact .inr (cd xb r))
       have Ae:¬(Y:Int)<12:=by omega
       go_wp2;go_roundw
       case rel=>refine⟨k+1,by omega,by go_num,ND,Fy,L,?_,R8.o,XP.o,A1.o,xb⟩;rw[xh.o,bn (.inr (by omega)),yA.o.2.1,<-yA.o.2.2];exact DO.o
       case measure=>simp[intOf];omega
     have ej:k=t.length:=by omega
     subst ej;have DO:=ag s;clear s X;go_wp2;go_end0
     refine⟨⟨_,rfl⟩,?_⟩;rw[gE.o,<-aqw.o,<-yT.o.1];rw[<-XL.o,wv]at DO;exact DO.o.to
structure ig (N:Nat) (S:bP):Prop where
 en:∀c,c<N->pY N S.P (S.en c)
 iR:∀c d,c<N->d<N->∀m∈S.ms c d,Ak N S.P m
 len:∀c d,c<N->d<N->(S.ms c d).length<=12
 ai:∀c i,c<N->i<N->S.ai c i<=(S.P i).length
 qU:∀i,i<N->(S.P i).length<=60
theorem Ak.mono{m}{N:Nat}{P P':Nat->List bT}(h:∀i,i<N->(P i).length<=(P' i).length)(a:Ak N P m):Ak N P' m:=⟨a.1,λf b=>⟨(a.2 f b).1,cd (a.2 f b).2 (h _ (a.2 f b).1)⟩⟩
theorem pY.mono{l}{N:Nat}{P P':Nat->List bT}(h:∀i,i<N->(P i).length<=(P' i).length)(a:pY N P l):pY N P' l:=⟨a.1,λf b=>⟨(a.2 f b).1,cd (a.2 f b).2 (h _ (a.2 f b).1)⟩⟩
theorem ig.new (N:Nat):ig N ⟨λ_=>[],λ_ _=>0,λ_=>[],λ_ _=>0,λ_ _ _=>0,λ_ _=>[],λ_ _=>false⟩:=
 ⟨λ_ _=>⟨IB,λf a=>(by cases a)⟩,λ_ _ _ _ m b=>(by cases b),λ_ _ _ _=>b6 _,λ_ _ _ _=>bW _,λ_ _=>b6 _⟩
theorem ig.shut(h:ig a d)(c b:Nat):ig a (BX d c b):=⟨h.en,h.iR,h.len,h.ai,h.qU⟩
theorem ig.comes(h:ig b d)(l:a<b)(m:∀f∈r,f.1<b/\f.2<=(d.P f.1).length):ig b (xA d a r):=by
 have j:=pY.RO (d.ai a) (h.en a l) m;refine⟨λc g=> ?_,h.iR,h.len,λc i g k=> ?_,h.qU⟩
 .unfold xA;simp only;by_cases e:c=a
  .subst e;rw[bL];exact⟨j.1.sublist atU,λf o=>j.2 f (p4.1 o).1⟩
  rw[ch _ _ e];exact h.en c g
 unfold xA;simp only;by_cases e:c=a
 .subst e;rw[bL];exact aex (λn p=>(j.2 _ p).2) _ _ (h.ai c i g k)
 rw[ch _ _ e];exact h.ai c i g k
theorem ig.answers(h:ig a d)(l:b<a)(n o:Nat->Nat):∀m∈tM a n (d.ai b) o,Ak a d.P m:=by intro m p;obtain⟨j,_,rfl⟩:=dF.1 p;refine⟨λe=>(by cases e),λf q=> ?_⟩;have c:=tS (mo (p4.1 q).1);obtain⟨i,r,c⟩:=lg.1 c;obtain⟨k,s,rfl⟩:=dF.1 c;have g:=rA.1 r;have t:=rA.1 s;have :=h.ai b i l g;exact⟨g,by simp only;omega⟩
theorem ig.kl(h:ig a d)(q:b<a)(r:j<a){l:List la}(p:∀m∈l,Ak a d.P m)(s:l.length<=12):ig a (ht d b j l):=by
 have e:∀c f,(ht d b j l).ms c f=l\/(ht d b j l).ms c f=d.ms c f:=λc f=>by
  unfold ht;simp only;by_cases n:c=b
  .subst n;by_cases o:f=j
   .subst o;rw[bL,bL];simp
   rw[bL,ch _ _ o];simp
  rw[ch _ _ n];simp
 refine⟨h.en,λc f i k m g=> ?_,λc f i k=> ?_,h.ai,h.qU⟩
 .rcases e c f with e|e
  .rw[e]at g;exact p m g
  rw[e]at g;exact h.iR c f i k m g
 rcases e c f with e|e
 .simp_all
 rw[e];exact h.len c f i k
theorem ig.ask(h:ig a d)(g:b<a)(k:j<a):ig a (DD a d b j):=by
 unfold DD;split
 .exact h
 rename_i e
 refine h.kl g k (λm c=> ?_) ?_
 .rcases dZ.1 c with c|c
  .exact h.iR b j g k m c
  rw[fR]at c;subst c;refine⟨λ_=>⟨by simp,λn o=> ?_⟩,λf p=>(by cases p)⟩;obtain⟨i,q,rfl⟩:=dF.1 o;have l:=rA.1 q;have :=h.ai b i g l;have :=h.qU i l;omega
 rw[dh,wu];omega
theorem ig.Fq(h:ig a d)(c:b<a)(e:j<a):ig a (H8 d b j):=by have g:=h.len b j c e;refine h.kl c e (λm f=>h.iR b j c e m (List.mem_of_mem_tail f)) ?_;rw[List.length_tail];omega
theorem ig.later(h:ig j d)(c:a<j)(f:b<j):ig j (DE d a b):=by
 have i:=h.len a b c f;have g:=h.iR a b c f;unfold DE
 match e:d.ms a b with
 |[]=>exact h
 |m::l=>
  simp only;rw[e]at i g;split
  .exact h
  refine h.kl c f (λk n=>g k ?_) ?_
  .simpa[or_comm]using n
  simp_all
theorem ig.again(h:ig j d)(c:a<j)(f:b<j):ig j (DF d a b):=by
 have i:=h.len a b c f;have k:=h.iR a b c f;unfold DF
 match e:d.ms a b with
 |[]=>exact h
 |m::l=>
  simp only;rw[e]at i k;split
  .exact h
  rename_i o
  refine h.kl c f (λn g=>k n ?_) ?_
  .rcases dZ.1 g with g|g
   .omega
   simp_all
  simp at i⊢;omega
theorem ig.HJ(h:ig a d)(e:b<a)(f:j<a){us:List la}(g:∀m∈us,Ak a d.P m):ig a (ht d b j (pV (d.sh b j) (d.ms b j) us)):=by
 refine h.kl e f ?_ (aeH _ _ _ (h.len b j e f));have k:∀(us l:List la),(∀m∈l,Ak a d.P m)->(∀m∈us,Ak a d.P m)->∀m∈pV (d.sh b j) l us,Ak a d.P m:=by
  intro us
  induction us with
  |nil=>intro l i _;exact i
  |cons u us ih=>
   intro l i g;refine ih _ (λm c=> ?_) λm c=>g m (by simp[c])
   split at c
   .simp_all
   rcases dZ.1 c with c|c
   .simp_all
   simp_all
 exact k us _ (h.iR b j e f) g
theorem ig.XV(h:ig j d)(g:b<j)(c:a<j)(o:b≠a):ig j (pk j d b a):=by
 have n:=h.len b a g c;have k:=h.iR b a g c;unfold pk
 match e:d.ms b a with
 |[]=>exact h
 |m::l=>
  simp only;rw[e]at n k;have f:ig j (ht d b a l):=h.kl g c (λp q=>k p (by simp[q])) (by simp at n;omega);split
  .have r:ig j (yN (ht d b a l) a b λi=>m.cF.getD i 0):=⟨f.en,f.iR,f.len,f.ai,f.qU⟩;have s:(yN (ht d b a l) a b λi=>m.cF.getD i 0).ms a b=d.ms a b:=by unfold yN ht;simp only;rw[ch _ _ λe=>o e.symm]
   have :=r.HJ c g (us:=tM j (λi=>m.cF.getD i 0) (d.ai a) (d.df a)) (h.answers c _ _);rw[s]at this;exact this
  exact f.comes c (k m (by simp)).2
theorem ig.wrote(h:ig b d){j:List bT}(o:(d.P a++j).length<=60):ig b (kS d a j):=by
 have k:∀i,(d.P i).length<=((kS d a j).P i).length:=λi=>by
  unfold kS;simp only;by_cases e:i=a
  .subst e;rw[bL,dh];omega
  rw[ch _ _ e];omega
 refine⟨λc g=>(h.en c g).mono λi _=>k i,λc f g p m q=>(h.iR c f g p m q).mono λi _=>k i,h.len,λc i g l=> ?_,λi l=> ?_⟩
 .unfold kS;simp only;split
  .rename_i e
   rw[e.2,bL];omega
  have r:=h.ai c i g l;have n:=k i;unfold kS at n;simp only at n;omega
 unfold kS;simp only;by_cases e:i=a
 .subst e;rw[bL];exact o
 rw[ch _ _ e];exact h.qU i l
def yU (N:Nat) (c d:Nat):Nat->bP->bP
 |0,S=>S
 |k+1,S=>yU N c d k (pk N S c d)
theorem aqy{N:Nat}{S:bP}(c:a≠b):(pk N S a b).ms a b=(S.ms a b).tail/\(pk N S a b).sh=S.sh:=by
 unfold pk
 match e:S.ms a b with
 |[]=>simp_all
 |m::d=>
  simp only;split
  .unfold ht yN;simp only;rw[ch _ _ c,bL,bL];simp
  unfold xA ht;simp only[bL];simp
theorem aqz (k:c3 c b e h i a d f) (ok:ig a d) (j g:Nat) (q:j<a) (m:g<a) (w:j≠g):
  O 114 #[Z b,A j,A g] c λl z=>l=ad (A (if d.ms j g=[] then 12 else 0))/\j7 b a e h i f.vl c z (pk a d j g):=by
 have x:=FO k j g q m w;obtain⟨M,N,P,Q,_,_,_,_,y,_,r⟩:=k.xE q m;obtain⟨R,S,B,U,W⟩:=k.queue q m;rw[B]at r
 match t:d.ms j g with
 |[]=>
  rw[bn rfl];rw[t]at r;have v:=ag (show pk a d j g=d by unfold pk;rw[t]);go_enter func114,ntmps114;go_wp2_with fail
  refine x.mono ?_;rintro l C ⟨⟨D,E,s,rfl⟩,rfl⟩;rw[y]at s;obtain⟨rfl,rfl⟩:=s;go_wp2;go_ret
  exact⟨rfl,by rw[v.o];exact k.left (ca _ _)⟩
 |p::F=>
  rw[a7 (by simp)];have v:=ag (aeI k j g q m w t (ok.iR j g q m p (by simp_all)) (ok.en g m));rw[t]at r;simp only[iq]at r;obtain⟨n,I⟩:∃n,n=F.length:=⟨_,rfl⟩;rw[<-I]at r;have X:¬((n:Int)+1=0):=by omega
  have Y:(((n:Int)+1)==0)=false:=by rfl
  go_enter func114,ntmps114;go_wp2_with fail
  refine x.mono ?_;rintro l C ⟨⟨D,E,s,rfl⟩,rfl⟩;rw[y]at s;obtain⟨rfl,rfl⟩:=s;go_wp2_with fail
  refine v.o.mono ?_;rintro l w2 ⟨⟨u,rfl⟩,L⟩;go_wp2;go_ret
  exact⟨rfl,L⟩
theorem XW{N c d:Nat}:∀(k:Nat) (S:bP),yU N c d (k+1) S=pk N (yU N c d k S) c d
 |0,_=>rfl
 |k+1,S=>XW k (pk N S c d)
theorem aeQ{N c d:Nat}(a:c≠d):∀(k:Nat) (S:bP),(yU N c d k S).ms c d=(S.ms c d).drop k/\(yU N c d k S).sh=S.sh
 |0,_=>⟨by rfl,rfl⟩
 |k+1,S=>by rw[XW];obtain⟨f,b⟩:=aeQ a k S;obtain⟨g,e⟩:=aqy (N:=N) (S:=yU N c d k S) a;exact⟨by simp_all,e.trans b⟩
theorem XX{N c d:Nat}(a:c<N)(b:d<N)(e:c≠d):∀(k:Nat) {S:bP},ig N S->ig N (yU N c d k S)
 |0,_,h=>h
 |k+1,_,h=>XX a b e k (h.XV a b e)
theorem aqA {N:Nat} (j:c3 c a e h i N d f) (ok:ig N d) (g b:Nat) (q:g<N) (n:b<N) (v:g≠b):
  O 123 #[Z a,A g,A b] c λl W=>l=ad (.tuple #[A (if d.sh g b=true then((d.ms g b).length:Nat) else 0),A (if d.sh g b=true then 0 else 11)])/\j7 a N e h i f.vl c W (if d.sh g b=true then yU N g b (d.ms g b).length d else d):=by
 have B:=FO j g b q n v;obtain⟨vZ,o5,gl,gp,_,_,_,_,w,C,dm⟩:=j.xE q n;by_cases r:d.sh g b=true
 .rw[bn r,bn r,bn r];rw[r]at C;have kc:=ag r;have hlen:=ok.len g b q n;go_enter func123,ntmps123;go_wp2_with fail
  refine B.mono ?_;rintro l D ⟨⟨X,Y,s,rfl⟩,rfl⟩;rw[w]at s;obtain⟨rfl,rfl⟩:=s;go_wp2_with fail
  go_loopw [10] (λm wr=>∃k:Nat,k<=(d.ms g b).length/\m=A k/\∃E F I L,l7 a N e h i E F I f.vl D wr (yU N g b k d) L) (λm _=>(d.ms g b).length-(intOf m).toNat)
  case atStart=>exact⟨0,b6 _,rfl,e,h,i,f,j,dp.cL (ca _ _),λk M=>⟨M,rfl⟩,rfl⟩
  case round=>
   obtain⟨k,M,rfl,E,F,I,L,t⟩:=hrel;obtain⟨P,fp⟩:=aeQ (N:=N) v k d;obtain⟨gL5,cL5,gl5,cl5,_,_,_,_,Q,s5,x⟩:=t.1.xE q n;rw[t.2.2.2,w]at Q;obtain⟨rfl,rfl⟩:=Q;obtain⟨R6,R7,EV,aeP,_⟩:=t.1.queue q n;rw[EV,P,ly]at x;have y:=ag t;by_cases aL:k<(d.ms g b).length
   .obtain⟨p,R,S⟩:∃p R,(yU N g b k d).ms g b=p::R:=by rw[P,Cb aL];exact⟨_,_,rfl⟩
    have U:=XX q n v k ok;obtain⟨z,E8⟩:∃z,z=(d.ms g b).length-k:=⟨_,rfl⟩;rw[<-E8]at x;have au1:(0:Int)<(z:Int):=by omega
    go_wp2_with fail
    refine(aeI t.1 g b q n v S (U.iR g b q n p (by rw[S];simp)) (U.en b n)).mono ?_;rintro l w2 ⟨⟨u,rfl⟩,avY,XS,XT,x6,gi⟩;go_wp2;go_roundw
    case rel=>exact⟨k+1,by omega,by go_num,avY,XS,XT,x6,by rw[XW];exact y.o.trans gi⟩
    case measure=>simp[intOf];omega
   have ej:k=(d.ms g b).length:=by omega
   rw[show(d.ms g b).length-k=0 by omega]at x;go_wp2;go_ret2
   rw[ej]at y⊢;exact⟨rfl,y.o.to⟩
 rw[a7 r,a7 r,a7 r];have lY:d.sh g b=false:=by simp_all
 rw[lY]at C;go_enter func123,ntmps123;go_wp2_with fail
 refine B.mono ?_;rintro l D ⟨⟨X,Y,s,rfl⟩,rfl⟩;rw[w]at s;obtain⟨rfl,rfl⟩:=s;go_wp2;go_ret2
 exact⟨rfl,j.left (ca _ _)⟩
def iS (N g:Nat):Value:=aa g N N
structure eo where
 gH:Nat
 lr:Nat
 sW:Value
 jj:List Nat
variable {n:List eo}{B:eo}
def eo.ints (x:eo):List Nat:=x.gH::x.lr::x.jj
def eo.eN (N:Nat) (x:eo):AV:=⟨iS N x.gH,.slice none 0 0,iS N x.lr,x.sW⟩
def aeR (B:Nat) (w:World) (v:Value) (N:Nat):Prop:=w.ownsRow B 249 2 v N ((List.range N).flatMap λ_=>[Value.bool false,.slice none 0 0])
theorem aqB (N:Nat):((List.range N).flatMap λ_=>[Value.bool false,Value.slice none 0 0]).length=N*2:=by
 induction N with
 |zero=>rfl
 |succ n ih=>rw[mM,oL,dh,ih];simp;omega
theorem aqC (b:a<=4):(CB a).toList=(List.range a).flatMap λ_=>[Value.bool false,.slice none 0 0]:=by rcases(show a=0\/a=1\/a=2\/a=3\/a=4 by omega) with rfl|rfl|rfl|rfl|rfl<;>simp[CB,madeCells,Value.cells,mM,oL]
theorem aqD(h:c.heap[b]?=some (.cells (CB a) 249))(f:j<=b)(g:a<=4):aeR j c (iS a b) a:=by
 have e:=aqC g;have d:=aqB a;have i:(CB a).size=a*2:=by rw[<-afX,e,d]
 refine⟨d,.inr ⟨b,a,CB a,rfl,f,h,bW _,by unfold maxLen;omega,by omega,?_⟩⟩;rw[e,kp (by omega)]
def aqE (N B:Nat) (wr wc:World) (p:Value):Prop:=
 ∃c a b,p=Z c/\wc.heap[c]?=some (.cells #[iS N a,.slice none 0 0,iS N b,.slice none 0 0] 225)/\wr.heap.size<=c/\zeros B wc (iS N a) N/\zeros B wc (iS N b) N/\wr.heap.size<=a/\wr.heap.size<=b/\a≠b/\J wr wc
def aeS (B N:Nat) (a b:World) (e:Nat) (h i:Value) (k:Nat):Prop:=
 ∃f c,(∃d:List Nat,c=d.map (iS N)/\d.Nodup/\∀g∈d,a.heap.size<=g/\zeros B b (iS N g) N)/\b.heap[e]?=some (.cells #[h,.slice none 0 0,i,f] 225)/\c.length=k/\AT a.heap.size b 24 f c/\
  b.os=a.os/\b.tape=a.tape/\b.output=a.output/\a.heap.size<=b.heap.size/\∀g,g<a.heap.size->g≠e->b.heap[g]?=a.heap[g]?
theorem aqF{wr:World}{y:Nat}(P:c.heap.size<=wr.heap.size)(S:j<=c.heap.size)(C:a<=4)(v:AT c.heap.size wr 24 q w)(n:∃p:List Nat,w=p.map (iS a)/\p.Nodup/\∀g∈p,c.heap.size<=g/\zeros j wr (iS a g) a)(s:wr.os=c.os/\wr.tape=c.tape/\wr.output=c.output/\∀g,g<c.heap.size->g≠b->wr.heap[g]?=c.heap[g]?)(i:J wr Q)(U:y=wr.heap.size)(D:Q.heap[y]?=some (.cells (ot a) 3))(x:l.ownsRow c.heap.size 24 1 k (w.length+1) ((w++[iS a y]).flatMap one))(o:Q.grownBy l q.ownBlock)(E:l.heap[b]?=some (.cells #[u,.slice none 0 0,R,q] 225)):
  aeS j a c (l.setCell (K b 3) k) b u R (w.length+1):=by
 obtain⟨p,W,n⟩:=n;have F:k.ownBlock≠some b:=λe=>by obtain⟨X,Y⟩:=b0 x e;simp_all
 have stay:∀(g:Nat) (r:Array Value),Q.heap[g]?=some (.cells r 3)->(l.setCell (K b 3) k).heap[g]?=some (.cells r 3):=λg r t=>by
  have h1:=o.block g (aU t) λe=>by
   obtain⟨bq,I⟩:=b0 v e.symm;have :=bB I i
   simp_all
  rw[mn _ _ _ _ (show g≠b from λe=>by simp_all)]
  simp_all
 refine⟨k,w++[iS a y],⟨p++[y],by simp_all,?_,λg m=> ?_⟩,PH E,by simp,?_,?_,?_,?_,?_,?_⟩
 .refine nI.2 ⟨n.1,by simp,λd L h z e=> ?_⟩;rw[fR]at z;subst z e;have :=(cX (n.2 d L).2 d rfl).2;omega
 .rcases dZ.1 m with m|m
  .refine⟨(n.2 g m).1,cu (n.2 g m).2 λf M=> ?_⟩;obtain⟨r,t⟩:=b0 (n.2 g m).2 M;rw[stay f r (bB t i),t]
  rw[fR]at m;subst m;exact⟨by omega,T3 (stay g _ D) (by omega) C⟩
 .unfold AT;rw[dh];exact kd x F _
 .have :=o.os;simp[World.setCell];rw[this,i.os,s.1]
 .have :=o.tape;simp[World.setCell];rw[this,i.tape,s.2.1]
 .have :=o.output;simp[World.setCell];rw[this,i.output,s.2.2.1]
 .have :=o.size;have :=i.size;simp[World.setCell];omega
 intro g N B;rw[mn _ _ _ _ B,o.block g (by have :=i.size;omega) (λe=>by have :=(cX v g e.symm).1;omega),i.block g (by omega),s.2.2.2 g N B]
structure hd (w wr:World) (N r:Nat) (ba aW bc:Value) (cN:List eo) (gl:List Nat):Prop where
 at':vo w wr N r ba aW bc (cN.map (eo.eN N)) (gl.map (iS N))
 cv:∀x∈cN,zeros w.heap.size wr (iS N x.lr) N
 cy:∀x∈cN,AT w.heap.size wr 24 x.sW (x.jj.map (iS N))/\x.jj.length=N/\∀g∈x.jj,zeros w.heap.size wr (iS N g) N
 kj:(cN.flatMap eo.ints).Nodup
 hl:∀g∈gl,aeR w.heap.size wr (iS N g) N
 R9:gl.Nodup
theorem hd.ints{w wr N r d e f c i}(h:hd w wr N r d e f c i):∀g∈c.flatMap eo.ints,zeros w.heap.size wr (iS N g) N:=by
 intro g a;obtain⟨x,b,a⟩:=lg.1 a;rcases ft.1 a with rfl|a
 .exact h.at'.hH (eo.eN N x) (dF.2 ⟨x,b,rfl⟩)
 rcases ft.1 a with rfl|a
 .exact h.cv x b
 exact(h.cy x b).2.2 g a
theorem hd.ak{w wr N r d e f i j}{W:World}(h:hd w wr N r d e f i j)(a:J wr W):hd w W N r d e f i j:=
 ⟨h.at'.ak a,λx b=>dI (h.cv x b) a,λx b=>⟨dI (h.cy x b).1 a,(h.cy x b).2.1,λg c=>dI ((h.cy x b).2.2 g c) a⟩,h.kj,λg c=>dI (h.hl g c) a,h.R9⟩
theorem hd.copy{w wr N r n p q f s}{W l:World}{n0:Nat}(h:hd w wr N r n p q f s)(i:J wr W){x:eo}{j:Value}(z:l.ownsRow w.heap.size 225 4 j ((f.map (eo.eN N)).length+1) ((f.map (eo.eN N)++[eo.eN N x]).flatMap eN))(d:W.grownBy l p.ownBlock)(B:zeros w.heap.size wr (iS N x.gH) N)(C:zeros w.heap.size wr (iS N x.lr) N)(m:AT w.heap.size wr 24 x.sW (x.jj.map (iS N))/\x.jj.length=N/\∀g∈x.jj,zeros w.heap.size wr (iS N g) N)(D:x.ints.Nodup)(t:∀g∈x.ints,n0<=g)(v:∀g∈f.flatMap eo.ints,g<n0):hd w (l.setCell (K r 2) j) N r n j q (f++[x]) s:=by
 obtain⟨rows,M,P⟩:=h.at'.rest (u:=j) (o:=2) i h.at'.ho d (bW _);refine⟨?_,λy c=> ?_,λy c=> ?_,?_,λg d=>rows (h.hl g d) (by decide) (by decide),h.R9⟩
 .rw[ga];refine h.at'.copy i z d B λy c e=> ?_
  obtain⟨k,E,rfl⟩:=dF.1 c;have Q:k.gH=x.gH:=by
   have :some k.gH=some x.gH:=e
   simp_all
  have F:=v k.gH (lg.2 ⟨k,E,by unfold eo.ints;simp⟩);have I:=t x.gH (by unfold eo.ints;simp);omega
 .rcases dZ.1 c with c|c
  .exact rows (h.cv y c) (by decide) (by decide)
  rw[fR]at c;subst c;exact rows C (by decide) (by decide)
 .rcases dZ.1 c with c|c
  .exact⟨rows (h.cy y c).1 (by decide) (by decide),(h.cy y c).2.1,λg d=>rows ((h.cy y c).2.2 g d) (by decide) (by decide)⟩
  rw[fR]at c;subst c;exact⟨rows m.1 (by decide) (by decide),m.2.1,λg d=>rows (m.2.2 g d) (by decide) (by decide)⟩
 rw[oL,jI,SY,oM];refine nI.2 ⟨h.kj,D,λa L b i e=> ?_⟩;have F:=v a L;have I:=t b i;omega
theorem hd.k5{w wr N r k l m n j}{W i:World}(h:hd w wr N r k l m n j)(v:N<=4)(p:J wr W){y:Nat}{d:Value}(z:y=wr.heap.size)(q:W.heap[y]?=some (.cells (CB N) 249))(B:i.ownsRow w.heap.size 226 1 d ((j.map (iS N)).length+1) ((j.map (iS N)++[iS N y]).flatMap one))(c:W.grownBy i m.ownBlock):
  hd w (i.setCell (K r 3) d) N r k l d n (j++[y]):=by
 obtain⟨rows,s,I⟩:=h.at'.rest (u:=d) (o:=3) p h.at'.cE c (bW _);have s:=s (by decide);have C:w.heap.size<=y:=by rw[z];exact h.at'.dn.size
 have D:(i.setCell (K r 3) d).heap[y]?=some (.cells (CB N) 249):=by
  have E:=c.block y (aU q) λe=>by have :=(cX h.at'.cE y e.symm).2;omega
  rw[mn _ _ _ _ (show y≠r from λe=>by simp_all),E];exact q
 refine⟨?_,λx f=>rows (h.cv x f) (by decide) (by decide),λx f=>⟨rows (h.cy x f).1 (by decide) (by decide),(h.cy x f).2.1,λg c=>rows ((h.cy x f).2.2 g c) (by decide) (by decide)⟩,h.kj,λg c=> ?_,?_⟩
 .rw[ga];exact h.at'.k5 p B c
 .rcases dZ.1 c with c|c
  .exact rows (h.hl g c) (by decide) (by decide)
  rw[fR]at c;subst c;exact aqD D C v
 refine nI.2 ⟨h.R9,by simp,λa F b t e=> ?_⟩;rw[fR]at t;subst t e;have :=(cX (h.hl a F) a rfl).2;omega
theorem hd.t{w wr}{cs:List AV}{c:List Value}(h:hd w wr a b k q u n m)(d:cs=n.map (eo.eN a))(e:c=m.map (iS a)):vo w wr a b k q u cs c:=by subst d e;exact h.at'
theorem eo.all{P:Nat->Prop}(d:P a)(e:P b)(f:∀g∈m,P g):∀g∈eo.ints ⟨a,b,k,m⟩,P g:=by
 intro g c;rcases ft.1 c with rfl|c
 .exact d
 rcases ft.1 c with rfl|c
 .exact e
 simp_all
theorem eo.nodup{n:Nat}(h:a≠b)(f:m.Nodup)(d:∀g∈m,n<=g)(i:a<n)(j:b<n):(eo.ints ⟨a,b,k,m⟩).Nodup:=by
 show(a::b::m).Nodup;refine oN.2 ⟨λc=> ?_,oN.2 ⟨λc=> ?_,f⟩⟩
 .rcases ft.1 c with e|c
  .omega
  have :=d _ c;omega
 have :=d _ c;omega
theorem aqG (N s:Nat) (h1:1<=N) (h2:N<=4) (ax:1<=s) (a8:s<=50) (w:World):
  O 93 #[.int .i64 N,.int .i64 s] w λe w'=>∃r R S U d n,e=.returned (.tuple #[.pointer (some ⟨r,0,none⟩),.int .i64 0])/\hd w w' N r R S U d n/\d.length=N/\n.length=N:=by
 obtain⟨avZ,hiO,aeT,aeU,aeV⟩:=qH (P:=prog) (e:=255) (z:=.slice none 0 0) (size:=1) (bytes:=24) (by rfl);obtain⟨awi,Ke,au2,au3,au4⟩:=qH (P:=prog) (e:=3) (z:=.int .i64 0) (size:=1) (bytes:=8) (by rfl);obtain⟨oa,hiL,au5,au6,au7⟩:=qH (P:=prog) (e:=249) (z:=.agg #[.bool false,.slice none 0 0]) (size:=2) (bytes:=32) (by rfl);go_enter func93,ntmps93;go_wp2_with (at_make;go_must (refine wpList_make_full _ rfl (.tmp 25) (.tmp 25) 218 rfl w.heap.size 255 avZ (.slice none 0 0) 1 underlying218 hiO aeT aeU _ _ _ _ N rfl rfl ?h1 ?h2 ?ax ?a8 ?cP ?_;(case h1=>rfl);(case h2=>rfl);(case ax=>rw[aeV];omega);(case a8=>unfold maxLen;omega);(case cP=>simp);intro w1 oQ e9;have si:=ag (aiL oQ);clear oQ;have eK:=ag e9;clear e9))
 have aJ:=ag (show Below w.heap.size w w1 from(ca _ w).grown eK.o (bW _) (λk hk=>by cases hk));have HN0:Hq (vo w (w1.alloc (.cells #[.int .i64 N,.slice (some ⟨w.heap.size,0,none⟩) N N,.slice none 0 0,.slice none 0 0] 222)) N w1.heap.size (.slice (some ⟨w.heap.size,0,none⟩) N N) (.slice none 0 0) (.slice none 0 0) [] []):=
  ⟨bZ _ _,aJ.o.size,si.o.alloc _,hg _ _ _ _,λx D=>by simp at D,List.Pairwise.nil,hg _ _ _ _,aJ.o.alloc aJ.o.size _⟩
 generalize w1.heap.size=r at *;generalize Value.slice (some ⟨w.heap.size,0,none⟩) N N=R at *;clear hiO aeT aeU aeV si eK aJ;go_loopw [7] (λi wr=>∃m:Nat,m<=N/\i=.int .i64 m/\∃S U E f d n,(hd w wr N r R S U d n/\E=d.map (eo.eN N)/\f=n.map (iS N))/\E.length=m/\f.length=m) (λi _=>N-(intOf i).toNat)
 case atStart=>exact⟨0,b6 _,rfl,_,_,[],[],[],[],⟨⟨HN0.o,λx D=>by simp at D,λx D=>by simp at D,by simp,λx D=>by simp at D,by simp⟩,rfl,rfl⟩,rfl,rfl⟩
 case round=>
  obtain⟨m,hm,rfl,S,U,E,f,d,n,⟨e3,jq,vB⟩,kL,jQ⟩:=hrel;subst kL;have Cz:=ag jQ;clear jQ;obtain⟨F,zM⟩:∃F,F=wr:=⟨_,rfl⟩;subst zM;have XY:=ag e3;have jv:=ag (e3.t jq vB);clear e3;have XZ:=ag jq;clear jq;have lZ:=ag vB;clear vB;by_cases aL:E.length<N
  .have Fi:=jv.o.dn.size;go_wp2;go_cut [8] (λp wc=>aqE N w.heap.size F wc p)
   case first =>
    have CR:=LC N h2;go_region
    all_goals(go_wp2_with fail;go_meet)
    all_goals exact⟨_,_,_,rfl,(by first |exact T0 _ _ _ _|exact T1 _ _ _ _|exact T2 _ _ _ _),by omega,T3 (by first |exact T0 _ _ _ _|exact T1 _ _ _ _|exact T2 _ _ _ _) (by omega) h2,T3 (by first |exact T0 _ _ _ _|exact T1 _ _ _ _|exact T2 _ _ _ _) (by omega) h2,by omega,by omega,by omega,aiM _ _ _ _⟩
   case rest=>
    obtain⟨oy,gH,lr,rfl,I,hcw,b1,hzt,W,aeW,n1,G3⟩:=hcut;have Fg:=ag (aN W (aN aeW n1));clear W aeW n1;have HZT:=ag hzt;clear hzt;obtain⟨FV,Eu⟩:∃v,v=iS N gH:=⟨_,rfl⟩;obtain⟨DP,Sa⟩:∃v,v=iS N lr:=⟨_,rfl⟩;rw[<-Eu]at I b1;rw[<-Sa]at I;have yS:DP.oneCell'=true:=by rw[Sa];rfl
    have aeX:=ag (aN Eu Sa);clear Eu Sa;have X0:=ag I;clear I;have u:=ag G3;clear G3;have Lo:=ag b1;clear b1;have jq:=aU X0.o;have CR:=LC N h2;go_wp2;go_loopw [9] (λi iJ=>∃q:Nat,q<=N/\i=.int .i64 q/\aeS w.heap.size N wc iJ oy FV DP q) (λi _=>N-(intOf i).toNat)
    case atStart=>exact⟨0,b6 _,rfl,_,[],⟨[],rfl,IB,λg a=>by simp at a⟩,X0.o,rfl,hg _ _ _ _,rfl,rfl,rfl,bW _,λ_ _ _=>rfl⟩
    case round=>
     obtain⟨q,aw,rfl,hk⟩:=hrel;obtain⟨sW,L,M,I,ej,bQ,lS,hta,hou,cw,C6⟩:=hk;have HGK:=ag M;clear M;subst ej;obtain⟨FW,BA,rfl,z6,Js,_⟩:=bz bQ;have yy:=ag bQ;clear bQ;have Q:=ag (aN lS (aN hta (aN hou C6)));clear lS hta hou C6;have j:=ag I;clear I;have tQ:=aU j.o;by_cases Df:L.length<N
     .have ce:=vn j.o;have ZX:=cV j.o;have TZ:=ag (show some oy≠(Value.slice FW L.length BA).ownBlock from λe=>by obtain⟨Px,Cx⟩:=b0 yy.o e.symm;exact absurd (cQ j.o Cx) (by decide));go_wp2;go_region_law (refine AI one 1 24 44 24 (.slice none 0 0) (by rfl) underlying44 rfl (by omega) (λ_=>rfl) rfl (.tmp 45) (.tmp 48) rfl wc.heap.size (.slice FW L.length BA) L (by rfl) ?h1 (wr.heap.size+1) 1 (.slice (some ⟨wr.heap.size,0,none⟩) N N) (by rfl) ?h2 ?ax ?a8 ?cP ?gi ?_;(case h1=>exact((yy.o.alloc _).alloc _).drew);(case h2=>exact one_cell (by simp));(case ax=>exact aaB);(case a8=>omega);(case cP=>unfold maxLen;omega);(case gi=>simp[World.drew];omega);intro v' X b c Y;have B:=ag (aN b c);obtain⟨a3,Li,jM,_,_,_⟩:=bz b;subst jM;have th:=ag (show X.heap[oy]?=some (.cells #[FV,.slice none 0 0,DP,.slice FW L.length BA] 225) by rw[c.block oy (by simp[World.drew];omega) TZ.o];exact nm (nm j.o));have cb3:=vn th.o;have cf3:=cV th.o;clear b c Y)
      all_goals(try go_wp2)
      all_goals go_roundw
      all_goals first |(simp[intOf];omega)|exact⟨L.length+1,by omega,by go_num,aqF (y:=wr.heap.size) cw (cd Fi u.o.size) h2 yy.o HGK.o Q.o (((aV wr _).alloc (by simp) _).drew) rfl (nm (bZ wr _)) B.o.1 B.o.2 th.o⟩
     have HQB:=ag (show Below F.heap.size F wr from⟨Q.o.1.trans u.o.os,Q.o.2.1.trans u.o.tape,Q.o.2.2.1.trans u.o.output,cd u.o.size cw,λg a=>by rw[Q.o.2.2.2 g (c0 a u.o.size) (by omega),u.o.block g a]⟩);have l:=ag (jv.o.ak HQB.o);have HZA:=ag (show ∀v,zeros w.heap.size wc v N->zeros w.heap.size wr v N from λv aO=>cu aO (λg a=>Q.o.2.2.2 g (cX aO g a).2 (by intro e;subst e;obtain⟨cB,cD⟩:=b0 aO a;exact absurd (cQ cD X0.o) (by decide))));have HRQ:=ag (XY.o.ak HQB.o);obtain⟨Ks,vcc,Ew,_,_,_⟩:=bz l.o.ho;obtain⟨Sb,Sc,mP,_,_,_⟩:=bz l.o.cE;subst Ew;subst mP;have J2:=aaC l.o.aP;have mf:=cV l.o.aP;have gX:=x7 j.o;have q1:=x8 j.o;have h4:=AU j.o;have wB:=vn j.o;have qR:=aU l.o.aP;have Hj:=ag (show some r≠(Value.slice Ks E.length vcc).ownBlock from λe=>by obtain⟨cB,cD⟩:=b0 l.o.ho e.symm;exact absurd (cQ l.o.aP cD) (by decide));obtain⟨aE,hc,W,_,_,_⟩:=bz Lo.o;have Us:=ag W;clear W;have aqH:=yS;go_wp2;go_cut [] (λwd=>∃v' x,hd w wd N r R v' (.slice Sb f.length Sc) (d++[x]) n)
     case first =>
      go_region_law (refine AI eN 4 96 219 225 (.agg #[.slice none 0 0,.slice none 0 0,.slice none 0 0,.slice none 0 0]) (by rfl) underlying219 rfl (by omega) (λ_=>rfl) rfl (.tmp 55) (.tmp 57) rfl w.heap.size (.slice Ks E.length vcc) E (by rfl) ?h1 wr.heap.size 1 ⟨FV,.slice none 0 0,DP,.slice FW L.length BA⟩ (by rfl) ?h2 ?ax ?a8 ?cP ?gi ?_;(case h1=>exact(l.o.ho.alloc _).drew);(case h2=>exact aiO (bZ wr _));(case ax=>exact aiN Us.o aqH);(case a8=>omega);(case cP=>omega);(case gi=>simp[World.drew];omega);intro v' X b c Y;have B:=ag (aN b c);obtain⟨a3,Li,jM,_,_,_⟩:=bz b;subst jM;have iZ:=ag (show X.heap[r]?=_ from(c.block r (by simp[World.drew];omega) Hj.o).trans (nm l.o.aP));have av0:=aaC iZ.o;have rf3:=cV iZ.o;clear b c Y)
      all_goals(go_wp2_with fail;go_meet)
      all_goals
       have av:=XZ.o;have aD:=aeX.o.1;have cY:=aeX.o.2;obtain⟨jj,LX,n1,M⟩:=HGK.o;subst av aD cY LX;have dG:jj.length=N:=by have :=Df;have :=aw;simp only[c2]at *;omega
       have i1:=Fg.o;have eA:=(cX Lo.o gH rfl).2;have db:=(cX HZT.o lr rfl).2;have bK:=u.o.size;exact⟨_,⟨gH,lr,_,jj⟩,HRQ.o.copy (n0:=F.heap.size) ((aV wr _).drew) B.o.1 B.o.2 (HZA.o _ Lo.o) (HZA.o _ HZT.o) ⟨ii yy.o (by omega),dG,λg a=>(M g a).2⟩ (eo.nodup i1.2.2 n1 (λg a=>(M g a).1) eA db) (λg a=>eo.all (P:=λg=>F.heap.size<=g) i1.1 i1.2.1 (λg a=>by have :=(M g a).1;omega) g a) (λg a=>(cX (XY.o.ints g a) g rfl).2)⟩
     case rest=>
      obtain⟨v',x,cS⟩:=hcut;have C:=ag cS;clear cS;have Vs:=ag (show AT w.heap.size wc 226 (.slice Sb f.length Sc) f from by have :=C.o.at'.cE;rw[<-lZ.o]at this;omega);have d3:=vn C.o.at'.aP;have awj:=cV C.o.at'.aP;have gW:=aU C.o.at'.aP;have hdz:=C.o.at'.dn.size;have CX:=aiK N h2;have Hj:=ag (show some r≠(Value.slice Sb f.length Sc).ownBlock from λe=>by obtain⟨cB,cD⟩:=b0 Vs.o e.symm;exact absurd (cQ C.o.at'.aP cD) (by decide));clear J2 mf gX q1 h4 wB;go_wp2;go_region_law (refine AI one 1 24 220 226 (.slice none 0 0) (by kernel_rfl) underlying220 rfl (by omega) (λ_=>rfl) rfl (.tmp 65) (.tmp 68) rfl w.heap.size (.slice Sb f.length Sc) f (by simp[Act.eval,Act.put]) ?h1 (wc.heap.size+1) 1 (.slice (some ⟨wc.heap.size,0,none⟩) N N) (by simp[Act.eval,Act.put]) ?h2 ?ax ?a8 ?cP ?gi ?_;(case h1=>exact((Cc Vs.o _).alloc _).drew);(case h2=>exact one_cell (by simp[go_sem]));(case ax=>exact aaB);(case a8=>have :=Cz.o;omega);(case cP=>have :=Cz.o;unfold maxLen;omega);(case gi=>simp[World.drew];omega);intro v'' X b c Y;have B:=ag (aN b c);obtain⟨a3,Li,jM,_,_,_⟩:=bz b;subst jM;have iZ:=ag (show X.heap[r]?=_ from(c.block r (by simp[World.drew];omega) Hj.o).trans (nm (nm C.o.at'.aP)));have av0:=vn iZ.o;have rf3:=cV iZ.o;clear b c Y)
      all_goals(try go_wp2)
      all_goals go_roundw
      all_goals first |(simp[intOf];omega)|skip
      all_goals
       have cR:=Cz.o;have av:=XZ.o;have aD:=lZ.o;subst av aD;exact⟨(d.map (eo.eN N)).length+1,by omega,by go_num,_,_,_,_,_,_,⟨C.o.k5 h2 (y:=wc.heap.size) (((aV wc _).alloc (by simp) _).drew) rfl (nm (bZ wc _)) B.o.1 B.o.2,rfl,rfl⟩,by simp,by simpa using cR⟩
  go_wp2;go_ret2
  have cR:=Cz.o;have av:=XZ.o;have aD:=lZ.o;subst av aD;simp only[c2]at *;exact⟨r,R,S,U,d,n,rfl,XY.o,by omega,by omega⟩
theorem aeY {α:Type} {f:α->List Nat}:∀{l:List α},(l.flatMap f).Nodup->∀a∈l,(f a).Nodup
 |[],_,a,h=>by cases h
 |x::l,b,a,h=>by
  rw[jI]at b;have :=nI.1 b;rcases ft.1 h with rfl|h
  .simp_all
  exact aeY this.2.1 a h
theorem Im {α:Type} {f:α->List Nat}:∀{l:List α},(l.flatMap f).Nodup->∀(i j:Nat) (a b:α),l[i]?=some a->l[j]?=some b->i≠j->∀k∈f a,k∉f b
 |[],_,i,_,a,b,c,_,_,k,_=>by simp at c
 |x::l,h,i,j,a,b,c,d,o,k,e=>λg=>by
  rw[jI]at h;obtain⟨_,n,m⟩:=nI.1 h
  match i,j with
  |0,0=>omega
  |0,j+1=>simp at c d;subst c;exact m k e k (lg.2 ⟨b,IE d,g⟩) rfl
  |i+1,0=>simp at c d;subst d;exact m k g k (lg.2 ⟨a,IE c,e⟩) rfl
  |i+1,j+1=>simp at c d;exact Im n i j a b c d (by omega) k e g
theorem aeZ (h:zeros b c k a):lL 0 c k ((List.range a).map λ_=>0):=by
 have e:∀l:List Nat,(l.map λ_=>0).flatMap pU=l.map λ_=>A 0:=λl=>by
  induction l with
  |nil=>rfl
  |cons d l ih=>rw[ip,jI,ih];rfl
 unfold lL;rw[e,c2,ww];exact ii h (b6 _)
theorem eo.hIn(y:eo):y.gH∈y.ints:=by unfold eo.ints;simp
theorem eo.Sd(y:eo):y.lr∈y.ints:=by unfold eo.ints;simp
theorem eo.Se{g:Nat}(h:g∈B.jj):g∈B.ints:=by unfold eo.ints;simp[h]
theorem eo.aI(h:B.ints.Nodup):B.gH≠B.lr:=by
 unfold eo.ints at h
 simp_all
theorem eo.hk{y:eo}(h:y.ints.Nodup):y.gH∉y.jj:=by
 unfold eo.ints at h
 simp_all
theorem eo.av1(h:B.ints.Nodup):B.lr∉B.jj:=by
 unfold eo.ints at h
 simp_all
theorem eo.qu(h:B.ints.Nodup):B.jj.Nodup:=by
 unfold eo.ints at h
 simp_all
def DR:Value:=.slice none 0 0
def kT (N:Nat) (a:List eo) (c j:Nat):Value:=match a[c]? with |some y=>(match j with |0=>iS N y.gH|1=>DR|2=>iS N y.lr|_=>y.sW)|none=>DR
def Al (N:Nat) (a:List eo) (c d:Nat):Value:=match a[c]? with |some y=>(match y.jj[d]? with |some g=>iS N g|none=>DR)|none=>DR
def B8 (N:Nat) (a:List Nat) (i:Nat):Value:=match a[i]? with |some g=>iS N g|none=>DR
def X2:bP:=⟨λ_=>[],λ_ _=>0,λ_=>[],λ_ _=>0,λ_ _ _=>0,λ_ _=>[],λ_ _=>false⟩
def avA (N:Nat) (b c d:Value) (a:List eo) (e:List Nat):ef:=⟨b,c,d,λ_=>DR,λ_=>[],kT N a,Al N a,B8 N e,λ_ _=>DR,λ_ _=>[]⟩
def X3 (r:Nat) (a b:Value) (c:List eo) (k:Nat):Prop:=k=r\/a.ownBlock=some k\/b.ownBlock=some k\/∃y∈c,k=y.gH
def avB (w a:World) (r:Nat) (b c:Value) (d:List eo) (k:Nat):Prop:=(w.heap.size<=k/\k<a.heap.size)/\¬X3 r b c d k
theorem aqI {α:Type} {f:α->List Value} {g:Nat->List Value} {l:List α} (h:∀c a,l[c]?=some a->g c=f a):(List.range l.length).flatMap g=l.flatMap f:=by
 have :∀k,k<=l.length->(List.range k).flatMap g=(l.take k).flatMap f:=by
  intro k b
  induction k with
  |zero=>simp
  |succ k ih=>rw[mM,oL,ih (by omega),lx (by omega),oL];simp[h k _ (uX (by omega))]
 simp_all
theorem ae0 {α:Type} {f:α->Value} {g:Nat->Value} {l:List α} (h:∀c a,l[c]?=some a->g c=f a):(List.range l.length).map g=l.map f:=by
 apply xN;intro c;by_cases b:c<l.length
 .simp_all
 simp_all
theorem ae1(l:List Value):l.flatMap one=l:=by
 induction l with
 |nil=>rfl
 |cons a l ih=>rw[jI,ih];rfl
theorem hd.get(c:n.length=a)(h:b<a):∃y,n[b]?=some y/\y∈n/\kT a n b 0=iS a y.gH/\kT a n b 1=DR/\kT a n b 2=iS a y.lr/\kT a n b 3=y.sW:=by have e:=uX (l:=n) (i:=b) (by omega);exact⟨_,e,dB _,by simp only[kT,e],by simp only[kT,e],by simp only[kT,e],by simp only[kT,e]⟩
theorem hd.NL(d:n.length=a)(k:∀y∈n,y.jj.length=a)(h:j<a)(m:b<a):∃y g,n[j]?=some y/\y∈n/\y.jj[b]?=some g/\g∈y.jj/\Al a n j b=iS a g:=by obtain⟨y,e,f,_⟩:=hd.get d h;have c:=uX (l:=y.jj) (i:=b) (by simp_all);exact⟨y,_,e,f,c,dB _,by simp only[Al,e,c]⟩
theorem hd.Sf(b:m.length=a){i:Nat}(h:i<a):∃g,m[i]?=some g/\g∈m/\B8 a m i=iS a g:=by have e:=uX (l:=m) (i:=i) (by omega);exact⟨_,e,dB _,by simp only[B8,e]⟩
theorem hd.aqJ(h:hd l c j b k q u n m){o:Array Value}(p:c.heap[a]?=some (.cells o z))(r:z≠222)(s:z≠255)(t:z≠225)(d:z≠3\/∀y∈n,a≠y.gH):¬X3 b k q n a:=by
 rintro(rfl|e|e|⟨y,f,rfl⟩)
 .exact r (cQ p h.at'.aP)
 .obtain⟨g,i⟩:=b0 h.at'.jt e
  simp_all
 .obtain⟨g,i⟩:=b0 h.at'.ho e
  simp_all
 rcases d with d|d
 .obtain⟨g,i⟩:=b0 (h.ints y.gH (lg.2 ⟨y,f,y.hIn⟩)) rfl
  simp_all
 exact d y f rfl
theorem hd.NM(h:hd c l j b k q R n m)(d:l.ownsRow c.heap.size z D u v w)(f:z≠222)(g:z≠255)(i:z≠225)(e:u.ownBlock=some a)(o:z≠3\/∀y∈n,a≠y.gH):avB c l b k q n a:=by obtain⟨r,p⟩:=b0 d e;exact⟨cX d a e,h.aqJ p f g i o⟩
theorem hd.aqK (h:hd Q c a b k q u n m) (C:n.length=a) (Y:m.length=a) (hN:a<=4):c3 c b (X3 b k q n) (avB Q c b k q n) (λ_=>False) a X2 (avA a k q u n m):=by
 have ej:=λy w=>(h.cy y w).2.1
 have Sg:=aeY h.kj;have TT:∀{p:Nat} {y:eo},n[p]?=some y->∀x∈n,y.lr≠x.gH:=λ{p y} w x M e=>by
  obtain⟨D,B,F⟩:=agl M;have z:n[D]?=some x:=by rw[uX B,F]
  by_cases R:p=D
  .subst R;obtain rfl:=ta (w.symm.trans z);exact eo.aI (Sg _ M) e.symm
  exact Im h.kj p D y x w z R y.lr y.Sd (e▸x.hIn)
 have PD:∀{p:Nat} {y:eo},n[p]?=some y->∀g∈y.jj,∀x∈n,g≠x.gH:=λ{p y} w g N x M e=>by
  obtain⟨D,B,F⟩:=agl M;have z:n[D]?=some x:=by rw[uX B,F]
  by_cases R:p=D
  .subst R;obtain rfl:=ta (w.symm.trans z);exact eo.hk (Sg _ M) (e▸N)
  exact Im h.kj p D y x w z R g (eo.Se N) (e▸x.hIn)
 have aP:=aU h.at'.aP;have fl:(List.range a).flatMap (λp=>[kT a n p 0,kT a n p 1,kT a n p 2,kT a n p 3])=(n.map (eo.eN a)).flatMap eN:=by
  rw[<-C];have :=aqI (l:=n.map (eo.eN a)) (f:=eN) (g:=λp=>[kT a n p 0,kT a n p 1,kT a n p 2,kT a n p 3]) (λp s aE=>by
   rw[Av]at aE;cases w:n[p]? with
   |none=>rw[w]at aE;simp at aE
   |some y=>rw[w]at aE;simp at aE;subst aE;simp only[kT,w];rfl)
  simp_all
 refine⟨⟨⟨h.at'.aP,hN,ii h.at'.jt (b6 _),λi I=>⟨hg _ _ _ _,λo al=>(by cases al)⟩,?_,?_,λp i C I=>b6 _,λi I=>b6 _⟩,⟨λi j _ _ _=>.inl rfl,?_⟩,λi I=>rfl,.inl rfl,λr v=>.inr (.inl v),λr v=>.inr (.inr (.inl v)),λi I r v=>(by cases v),λp B r v=> ?_,λi I o al=>(by cases al),λr v=> ?_⟩,λp B=> ?_,λp B=> ?_,λp B=> ?_,λp d B W=> ?_,?_,λi I=> ?_,λi j I aB=>ji.nil _ _ _,λi j I aB=>rfl,λi j I aB t hm=>(by cases hm),λp B r v=> ?_,λp B r v=> ?_,λp B r v=> ?_,λp d B W r v=> ?_,λr v=>h.NM h.at'.cE (by decide) (by decide) (by decide) v (.inl (by decide)),λi I r v=> ?_,λi j I aB r v=>(by cases v),?_,?_,?_,?_,?_,λi j mH DL _ _ _ _ _ r v=>(by cases v),λr v=>v.2,λr v=>v.1.2,λr v=>v.elim,λr v=>v.elim,λr v=>v.elim⟩
 .rw[show(avA a k q u n m).cp=kT a n from rfl,fl];have :=ii h.at'.ho (b6 _);rw[c2,C]at this;exact this
 .intro p B;obtain⟨y,e,w,cR,_⟩:=hd.get C B;show c.ownsRow 0 _ 1 (kT a n p 0) a _;rw[cR];exact ii (h.ints y.gH (lg.2 ⟨y,w,y.hIn⟩)) (b6 _)
 .intro p D E S U;obtain⟨y,e,w,cR,_⟩:=hd.get C E;obtain⟨x,F,M,e0',_⟩:=hd.get C S;show(kT a n p 0).ownBlock≠(kT a n D 0).ownBlock;rw[cR,e0'];intro z;have P:y.gH=x.gH:=ta z;exact Im h.kj p D y x e F U y.gH y.hIn (P▸x.hIn)
 .obtain⟨y,e,w,cR,_⟩:=hd.get C B;change(kT a n p 0).ownBlock=some r at v;rw[cR]at v;exact .inr (.inr (.inr ⟨y,w,(ta v).symm⟩))
 .rcases v with rfl|e|e|⟨y,w,rfl⟩
  .exact aP
  .exact(cX h.at'.jt r e).2
  .exact(cX h.at'.ho r e).2
  exact(cX (h.ints y.gH (lg.2 ⟨y,w,y.hIn⟩)) _ rfl).2
 .obtain⟨y,e,w,_,av,_⟩:=hd.get C B;show ld 0 c (kT a n p 1) [];rw[av];exact hg _ _ _ _
 .obtain⟨y,e,w,_,_,z,_⟩:=hd.get C B;show lL 0 c (kT a n p 2) _;rw[z];exact aeZ (h.cv y w)
 .obtain⟨y,e,w,_,_,_,P⟩:=hd.get C B;show c.ownsRow 0 _ 1 (kT a n p 3) a ((List.range a).map (Al a n p));rw[P];have E:=ii (h.cy y w).1 (b6 _);unfold AT at E;rw[c2,(h.cy y w).2.1,ae1]at E;have gu:=ae0 (l:=y.jj) (f:=iS a) (g:=Al a n p) (λd g W=>by simp only[Al,e,W]);rw[(h.cy y w).2.1]at gu;rw[gu];exact E
 .obtain⟨y,g,e,w,kI,N,z⟩:=hd.NL C ej B W;show lL 0 c (Al a n p d) _;rw[z];exact aeZ ((h.cy y w).2.2 g N)
 .have E:=ii h.at'.cE (b6 _);unfold AT at E;rw[c2,Y,ae1]at E;have gu:=ae0 (l:=m) (f:=iS a) (g:=B8 a m) (λd g W=>by simp only[B8,W]);rw[Y]at gu;show c.ownsRow 0 _ 1 u a ((List.range a).map (B8 a m));rw[gu];exact E
 .obtain⟨g,e,uF,z⟩:=hd.Sf Y I;show c.ownsRow 0 _ 2 (B8 a m i) a ((List.range a).flatMap λ_=>[Value.bool false,DR]);rw[z];exact ii (h.hl g uF) (b6 _)
 .obtain⟨y,e,w,_,av,_⟩:=hd.get C B;change(kT a n p 1).ownBlock=some r at v;rw[av]at v;cases v
 .obtain⟨y,e,w,_,_,z,_⟩:=hd.get C B;change(kT a n p 2).ownBlock=some r at v;rw[z]at v;exact h.NM (h.cv y w) (by decide) (by decide) (by decide) v (.inr λx M=>by obtain rfl:=ta v;exact TT e x M)
 .obtain⟨y,e,w,_,_,_,P⟩:=hd.get C B;change(kT a n p 3).ownBlock=some r at v;rw[P]at v;exact h.NM (h.cy y w).1 (by decide) (by decide) (by decide) v (.inl (by decide))
 .obtain⟨y,g,e,w,kI,N,z⟩:=hd.NL C ej B W;change(Al a n p d).ownBlock=some r at v;rw[z]at v;exact h.NM ((h.cy y w).2.2 g N) (by decide) (by decide) (by decide) v (.inr λx M=>by obtain rfl:=ta v;exact PD e _ N x M)
 .obtain⟨g,e,uF,z⟩:=hd.Sf Y I;change(B8 a m i).ownBlock=some r at v;rw[z]at v;exact h.NM (h.hl g uF) (by decide) (by decide) (by decide) v (.inl (by decide))
 .intro p D E S U r v;obtain⟨y,e,w,_,av,_⟩:=hd.get C E;change(kT a n p 1).ownBlock=some r at v;rw[av]at v;cases v
 .intro p d D cz E S ax a8 U r v L;obtain⟨y,g,e,w,kI,N,z⟩:=hd.NL C ej E S;obtain⟨x,g',F,M,aqL,aqM,X⟩:=hd.NL C ej ax a8;change(Al a n p d).ownBlock=some r at v;change(Al a n D cz).ownBlock=some r at L;rw[z]at v;rw[X]at L;obtain rfl:=ta v;obtain rfl:=ta L;by_cases R:p=D
  .subst R;obtain rfl:=ta (e.symm.trans F);have hdd:=U.elim (λh=>absurd rfl h) id;exact hdd ((List.getElem?_inj (by rw[ej y w];exact S) (eo.qu (Sg y w))).1 (kI.trans aqL.symm))
  exact Im h.kj p D y x e F R _ (eo.Se N) (eo.Se aqM)
 .intro p D E S U r v L;obtain⟨y,e,w,_,_,z,_⟩:=hd.get C E;obtain⟨x,F,M,_,_,X,_⟩:=hd.get C S;change(kT a n p 2).ownBlock=some r at v;change(kT a n D 2).ownBlock=some r at L;rw[z]at v;rw[X]at L;obtain rfl:=ta v;have P:x.lr=y.lr:=ta L;exact Im h.kj p D y x e F U _ y.Sd (P▸x.Sd)
 .intro p d D E S ax r v L;obtain⟨y,g,e,w,kI,N,z⟩:=hd.NL C ej E S;obtain⟨x,F,M,_,_,X,_⟩:=hd.get C ax;change(Al a n p d).ownBlock=some r at v;change(kT a n D 2).ownBlock=some r at L;rw[z]at v;rw[X]at L;obtain rfl:=ta v;have P:x.lr=g:=ta L;by_cases R:p=D
  .subst R;obtain rfl:=ta (e.symm.trans F);exact eo.av1 (Sg y w) (P▸N)
  exact Im h.kj p D y x e F R _ (eo.Se N) (P▸x.Sd)
 intro i j I aB U r v L;obtain⟨g,e,uF,z⟩:=hd.Sf Y I;obtain⟨g',F,au8,X⟩:=hd.Sf Y aB;change(B8 a m i).ownBlock=some r at v;change(B8 a m j).ownBlock=some r at L;rw[z]at v;rw[X]at L;obtain rfl:=ta v;have P:g'=g:=ta L;exact U ((List.getElem?_inj (by omega) h.R9).1 (e.trans (by rw[F,P])))
theorem aqN (N s:Nat) (f:1<=N) (d:N<=4) (g:1<=s) (h:s<=50) (w:World):
  O 93 #[A N,A s] w λe c=>J w c/\∃r F L x,e=ad (.tuple #[Z r,A 0])/\c3 c r F L (λ_=>False) N X2 x/\∀k,F k\/L k->w.heap.size<=k:=
 (aqG N s f d g h w).mono λe c ⟨r,n,o,p,q,t,i,a,j,l⟩=>⟨a.at'.dn,r,_,_,_,i,a.aqK j l d,λk b=>by
  rcases b with b|b
  .rcases b with rfl|e|e|⟨y,m,rfl⟩
   .exact a.at'.hw
   .exact(cX a.at'.jt k e).1
   .exact(cX a.at'.ho k e).1
   exact(cX (a.ints y.gH (lg.2 ⟨y,m,y.hIn⟩)) _ rfl).1
  exact b.1.1⟩
theorem FX{c b:Int}(h:¬mG a c b):¬WX a c b:=by rintro⟨⟨d,e⟩,⟨f,g⟩,i⟩;exact h ⟨c.toNat,b.toNat,by omega,by omega,by omega,by omega,by omega⟩
theorem aqO (l:c3 c a e h i b d f) (g j:Int) (m:¬mG b g j):O 113 #[Z a,A g,A j] c λk n=>k=ad (A 9)/\n=c:=by
 go_enter func113,ntmps113;go_wp2_with fail
 refine(FI l.cm.bN g j (FX m)).mono ?_;rintro k o ⟨rfl,rfl⟩;go_wp2;go_ret
 simp
theorem aqP (l:c3 c a e h i b d f) (g j:Int) (m:¬mG b g j):O 114 #[Z a,A g,A j] c λk n=>k=ad (A 9)/\n=c:=by
 go_enter func114,ntmps114;go_wp2_with fail
 refine(FI l.cm.bN g j (FX m)).mono ?_;rintro k o ⟨rfl,rfl⟩;go_wp2;go_ret
 simp
theorem aqQ (l:c3 c a e h i b d f) (g j:Int) (m:¬mG b g j):O 116 #[Z a,A g,A j] c λk n=>k=ad (.tuple #[A 0,A 9])/\n=c:=by
 go_enter func116,ntmps116;go_wp2_with fail
 refine(FI l.cm.bN g j (FX m)).mono ?_;rintro k o ⟨rfl,rfl⟩;go_wp2;go_ret2
 simp
theorem aqR (l:c3 c a e h i b d f) (g j:Int) (m:¬mG b g j):O 117 #[Z a,A g,A j] c λk n=>k=ad (A 9)/\n=c:=by
 go_enter func117,ntmps117;go_wp2_with fail
 refine(FI l.cm.bN g j (FX m)).mono ?_;rintro k o ⟨rfl,rfl⟩;go_wp2;go_ret
 simp
theorem aqS (l:c3 c a e h i b d f) (g j:Int) (m:¬mG b g j):O 118 #[Z a,A g,A j] c λk n=>k=ad (A 9)/\n=c:=by
 go_enter func118,ntmps118;go_wp2_with fail
 refine(FI l.cm.bN g j (FX m)).mono ?_;rintro k o ⟨rfl,rfl⟩;go_wp2;go_ret
 simp
theorem aqT (l:c3 c a e h i b d f) (g j:Int) (m:¬mG b g j):O 119 #[Z a,A g,A j] c λk n=>k=ad (A 9)/\n=c:=by
 go_enter func119,ntmps119;go_wp2_with fail
 refine(FI l.cm.bN g j (FX m)).mono ?_;rintro k o ⟨rfl,rfl⟩;go_wp2;go_ret
 simp
theorem aqU (l:c3 c a e h i b d f) (g j:Int) (m:¬mG b g j):O 121 #[Z a,A g,A j] c λk n=>k=ad (A 9)/\n=c:=by
 go_enter func121,ntmps121;go_wp2_with fail
 refine(FI l.cm.bN g j (FX m)).mono ?_;rintro k o ⟨rfl,rfl⟩;go_wp2;go_ret
 simp
theorem aqV (l:c3 c a e h i b d f) (g j:Int) (m:¬mG b g j):O 123 #[Z a,A g,A j] c λk n=>k=ad (.tuple #[A 0,A 9])/\n=c:=by
 go_enter func123,ntmps123;go_wp2_with fail
 refine(FI l.cm.bN g j (FX m)).mono ?_;rintro k o ⟨rfl,rfl⟩;go_wp2;go_ret2
 simp
end
section
attribute [local go_sem ↓] Go.wp_at_zero Go.wp_at_succ
variable {a c k l m:Nat}{b:bP}{d f i:Nat->Prop}{e n:World}{h:ef}{j:List (Nat×Nat)}
def yV (a b:Nat->Nat):Nat->Int
 |0=>0
 |d+1=>yV a b d+a d-b d
theorem ae2{a b:Nat->Nat}{N:Nat}(h:∀i,i<N->a i<=60/\b i<=a i):∀d,d<=N->0<=yV a b d/\yV a b d<=60*d
 |0,_=>by simp[yV]
 |d+1,c=>by have e:=ae2 h d (by omega);have f:=h d (by omega);unfold yV;omega
theorem aqW (l:c3 e c d f i a b h) (g:Nat) (z:g<a) (I:∀k,k<a->b.df g k<=b.ai g k):
  O 126 #[Z c,A g] e λm L=>m=ad (.tuple #[A (yV (b.ai g) (b.df g) a),A 0])/\J e L:=by
 have hN:=l.cm.bN.hN;have B:=show ∀k,k<a->b.ai g k<=60/\b.df g k<=b.ai g k from λk t=>⟨cd (l.cm.bN.eb g k z t) (l.cm.bN.cw k t),I k t⟩
 obtain⟨dy,fy,a0,bw,ck,bm,a2,bq,a3,ce,av,Cr,M,N,dN,P,hK,aD,cY,gu,n3,Hs,Ka,Xy,Q,R,_,_,_⟩:=l.B5 z;have S:e.cell? (H c)=some (A a):=by simp[World.cell?,l.cm.bN.aP]
 have C:=ag (vd l.cm.bN (g:Int));have qa:(0:Int)<=(g:Int):=by simp
 have jT:(g:Int)<(a:Int):=by omega
 have u:decide ((0:Int)<=(g:Int)/\(g:Int)<(a:Int))=true:=by simp;omega
 rw[u]at C;have U:=Q;have W:=R;go_enter func126,ntmps126;go_wp2_with fail
 refine C.o.mono ?_;rintro m X ⟨rfl,rfl⟩;go_wp2_with fail
 go_loopw [7,8] (λn k wr=>∃j:Nat,j<=a/\k=A j/\n=A (yV (b.ai g) (b.df g) j)/\J X wr) (λ_ k _=>a-(intOf k).toNat)
 case atStart=>exact⟨0,b6 _,rfl,rfl,ca _ _⟩
 case round=>
  obtain⟨j,u,rfl,rfl,p⟩:=hrel;have RV:=ak p S;by_cases v:j<a
  .have Y:=ae2 B j u;have D:=B j v;have q2r:=ak p M;have k0r:=ak p N;have k2r:=ak p P;have X4:=ak p (U j v);have Rk:=ak p (W j v);have Fh:(0:Int)<=(j:Int):=by simp
   have HI:(j:Int)<(a:Int):=by omega
   obtain⟨q,w⟩:∃q,q=yV (b.ai g) (b.df g) j:=⟨_,rfl⟩;rw[<-w]at Y⊢;have x:=ag (show yV (b.ai g) (b.df g) (j+1)=q+b.ai g j-b.df g j by rw[w];rfl);obtain⟨r,E⟩:∃r,r=b.ai g j:=⟨_,rfl⟩;obtain⟨s,F⟩:∃s,s=b.df g j:=⟨_,rfl⟩;rw[<-E]at X4 D x;rw[<-F]at Rk D x;clear w E F;have jR:IntKind.i64.wrap (q+r)=q+r:=mN _ (by omega);have e4:IntKind.i64.wrap (q+r-s)=q+r-s:=mN _ (by omega);have y:=ag p;go_wp2;go_quiet (fail)
   go_wp2;go_roundw
   case rel=>exact⟨j+1,by omega,by go_num,by rw[x.o],io y.o _⟩
   case measure=>simp[intOf];omega
  have C2:=show j=a by omega
  have y:=ag p;go_wp2;go_ret2
  rw[C2];exact⟨rfl,y.o⟩
theorem c3.aqX{I}(n:c3 e m d i I a b h)(s:l<a)(r:c<a):∃gk q,h.yO l c=aa gk a q/\a<=q/\∀g,g<a->e.cell? (K gk g)=some (A (b.bC l c g)):=by have p:=n.qu l c s r;unfold lL at p;rw[c2,ww]at p;obtain⟨o,q,j,t,_,f⟩:=bz p;obtain⟨gk,rfl⟩:=f c r;rw[j]at p;refine⟨gk,q,j,t,λg u=> ?_⟩;have :=jl (f:=pU) (k:=1) (λ_=>rfl) p (by simp) g (by simp_all) 0 (by omega);simpa[pU]using this
def mJ (S:bP) (c i n d:Nat):Bool:=d==c|| !(decide (S.bC c d i<n)||decide (S.ai c d<S.bC c d d))
theorem aqY {x:ef} (h:c3 e c d f i a b x) (k l n:Nat) (P:k<a) (hi:l<a):
  O 159 #[Z c,A k,.agg #[A l,A n]] e λq w'=>q=ad (.bool ((List.range a).all (mJ b k l n)))/\J e w':=by
 have hN:=h.cm.bN.hN;have ew:=ag (show ∀g,g<a->b.ai k g<=60 from λg u=>cd (h.cm.bN.eb k g P u) (h.cm.bN.cw g u));obtain⟨dy,fy,Q,R,ck,bm,a2,bq,S,U,v,Cr,h4,eh,W,dm,hK,D,E,gu,n3,Hs,Ka,Xy,r0,_,hKn,_,_⟩:=h.B5 P;have gX:e.cell? (H c)=some (A a):=by simp[World.cell?,h.cm.bN.aP]
 have Um:=λg (u:g<a)=>h.aqX P u
 have Dd:=r0;have HKR:=hKn;have qa:(0:Int)<=(k:Int):=by simp
 have jT:(k:Int)<(a:Int):=by omega
 have om:(0:Int)<=(l:Int):=by simp
 have Bi:(l:Int)<(a:Int):=by omega
 obtain⟨F,ma⟩:∃F,F=(b.en k).length:=⟨_,rfl⟩;rw[<-ma]at W;obtain⟨r,I⟩:∃r,r=(e.alloc (.cells #[A l,A n] 258)).alloc (.cells #[aa Q a R,.slice ck F bm,aa a2 a bq,aa S a U] 225):=⟨_,rfl⟩;have Ii:=show J e r by rw[I];exact(aV e _).alloc (by simp) _
 have X:r.heap[e.heap.size]?=some (.cells #[A l,A n] 258):=by rw[I];exact nm (bZ e _)
 have f0:r.cell? (V e 0)=some (A l):=by simp[World.cell?,X]
 have f1:r.cell? (V e 1)=some (A n):=by simp[World.cell?,X]
 have L:=bZ (e.alloc (.cells #[A l,A n] 258)) (.cells #[aa Q a R,.slice ck F bm,aa a2 a bq,aa S a U] 225);rw[<-I,show(e.alloc (.cells #[A l,A n] 258)).heap.size=e.heap.size+1 by simp]at L;have x0:r.cell? (H (e.heap.size+1))=some (aa Q a R):=by simp[World.cell?,L]
 have x3:r.cell? (K (e.heap.size+1) 3)=some (aa S a U):=by simp[World.cell?,L]
 have B:=aV e (.cells #[A l,A n] 258);replace h4:=ak B h4;replace eh:=ak B eh;replace W:=ak B W;replace dm:=ak B dm;replace hK:=ak B hK;clear h r0 hKn v D E gu n3 ma L X B;go_enter func159,ntmps159;go_wp2_with fail
 rw[<-I];go_loopw [8] (λj wr=>∃g:Nat,g<=a/\j=A g/\(List.range g).all (mJ b k l n)=true/\J r wr) (λj _=>a-(intOf j).toNat)
 case atStart=>exact⟨0,b6 _,rfl,rfl,ca _ _⟩
 case round=>
  obtain⟨g,u,rfl,k2,w⟩:=hrel;have y:=bp Ii w;have RV:=ak y gX;have zN:=k2;have Y:=y;have bE:=w;by_cases C:g<a
  .obtain⟨gk,gJ,aO,Bq,h9⟩:=Um g C;have f0r:=ak w f0;have f1r:=ak w f1;have x0r:=ak w x0;have x3r:=ak w x3;have av2:=ak y (HKR g C);rw[aO]at av2;have X4:=ak y (Dd g C);have av3:=ak y (h9 l hi);have Ac:=ak y (h9 g C);have Fh:(0:Int)<=(g:Int):=by simp
   have HI:(g:Int)<(a:Int):=by omega
   have s:mJ b k l n g=(g==k|| !(decide (b.bC k g l<n)||decide (b.ai k g<b.bC k g g))):=rfl;obtain⟨m,aE⟩:∃m,m=b.bC k g l:=⟨_,rfl⟩;obtain⟨p,hbk⟩:∃p,p=b.bC k g g:=⟨_,rfl⟩;obtain⟨z,b1⟩:∃z,z=b.ai k g:=⟨_,rfl⟩;rw[<-aE]at av3 s;rw[<-hbk]at Ac s;rw[<-b1]at X4 s;have M:=s;have uv:=C;clear k2 w y h9 aO aE hbk b1 s f0 f1 x0 x3 C;have yes:mJ b k l n g=true->(List.range (g+1)).all (mJ b k l n)=true:=λs=>by rw[mM,List.all_append,zN,List.all_cons,s];rfl
   have no:mJ b k l n g=false->(List.range a).all (mJ b k l n)=false:=λs=>by rw[Bool.eq_false_iff];intro aC;rw[S4]at aC;have :=aC g (rA.2 uv);rw[s]at this;cases this
   have N:=aN yes no;clear yes no;by_cases v:g=k
   .have u:mJ b k l n g=true:=by rw[M,v];simp
    have t:=ag (N.1 u);subst v;go_wp2;go_region
    go_wp2;go_roundw
    case rel=>exact⟨g+1,uv,by go_num,t.o,bE.drew⟩
    case measure=>simp[intOf];omega
   have bI:¬(g:Int)=(k:Int):=by omega
   have yj:((g:Int) !=(k:Int))=true:=by simpa using bI
   by_cases D:m<n
   .have t:=ag (N.2 (by rw[M];simp[v,D]));have BY:decide (m<n)=true:=by simp;omega
    go_wp2;go_quiet (fail)
    go_wp2;go_ret
    exact⟨by rw[t.o];rfl,io Y _⟩
   have BY:decide (m<n)=false:=by simp;omega
   by_cases E:z<p
   .have t:=ag (N.2 (by rw[M];simp[v,D,E]));have e3':decide (z<p)=true:=by simp;omega
    go_wp2;go_quiet (fail)
    go_wp2;go_ret
    exact⟨by rw[t.o];rfl,io Y _⟩
   have t:=ag (N.1 (by rw[M];simp[v,D,E]));have e3':decide (z<p)=false:=by simp;omega
   go_wp2;go_quiet (fail)
   go_wp2;go_roundw
   case rel=>exact⟨g+1,uv,by go_num,t.o,io bE _⟩
   case measure=>simp[intOf];omega
  have t:=ag (show g=a by omega);go_wp2;go_ret
  rw[<-t.o];exact⟨by rw[zN];rfl,Y⟩
def iT (l:List (Nat×Nat)) (d:Nat):Nat:=(l.filter λf=>f.1==d).length
theorem X6(l:List (Nat×Nat))(f:Nat×Nat)(d:Nat):iT (l++[f]) d=iT l d+if f.1=d then 1 else 0:=by
 unfold iT;rw[r6,dh];by_cases e:f.1=d
 .simp[e]
 simp[e]
def sX (P:Nat->List bT) (a:Nat->Nat) (d:Nat):PId:=(((P d)[a d]?).map bT.id).getD (0,0)
structure B9 (N:Nat) (P:Nat->List bT) (ai:Nat->Nat) (q:List (Nat×Nat)):Prop where
 at':∀k (hk:k<q.length),q[k].1<N/\q[k].2=iT (q.take k) q[k].1+1/\iT (q.take k) q[k].1<ai q[k].1/\∀d,d<N->d≠q[k].1->iT (q.take k) d<ai d->qM (sX P (iT (q.take k)) q[k].1) (sX P (iT (q.take k)) d)=true
 all:∀d,d<N->iT q d=ai d
def p0 (S:bP) (c:Nat) (l:List (Nat×Nat)):bP:={S with df:=upd S.df c λd=>max (S.df c d) (iT l d)}
def DS (a:Nat->Nat) (l:List (Nat×Nat)):Nat:=(l.filter λf=>decide (a f.1<f.2)).length
theorem ae3(S:bP)(c:Nat):p0 S c []=S:=by unfold p0 iT;simp only[Zf,sa,Nat.max_zero];rw[tG]
theorem aqZ{f:Nat×Nat}(h:iT j f.1+1<=b.df a f.1):p0 b a (j++[f])=p0 b a j:=by
 unfold p0;congr 2;funext d;rw[X6];by_cases e:f.1=d
 .rw[bn e,<-e];omega
 simp_all
theorem aq0{f:Nat×Nat}(h:b.df a f.1<iT j f.1+1):p0 b a (j++[f])=Kk (p0 b a j) a f.1 (iT j f.1+1):=by
 unfold p0 Kk;congr 1;funext c;by_cases g:c=a
 .subst g;simp only[bL];funext d;rw[X6];by_cases e:f.1=d
  .subst e;rw[bn rfl,bL];omega
  rw[a7 e,r9,ch _ _ (eE e)]
 simp only[ch _ _ g]
def Kw (w:World) (g:Nat):Nat->Nat
 |0=>0
 |d+1=>Kw w g d+(match w.cell? (K g d) with |some v=>(intOf v).toNat|none=>0)
theorem ae4{w:World}{g:Nat}{a:Nat->Nat}:∀d,(∀i,i<d->w.cell? (K g i)=some (A (a i)))->Kw w g d=((List.range d).map a).sum
 |0,_=>rfl
 |d+1,h=>by unfold Kw;rw[ae4 d λi b=>h i (by omega),h d (by omega),mM,ga,OL];rfl
theorem Sh{N:Nat}:∀{l:List (Nat×Nat)},(∀f∈l,f.1<N)->((List.range N).map (iT l)).sum=l.length
 |[],_=>by
  have :∀n,((List.range n).map (iT [])).sum=0:=λn=>by
   induction n with
   |zero=>rfl
   |succ n ih=>rw[mM,ga,OL,ih];rfl
  simp_all
 |f::l,h=>by
  have ih:=Sh (l:=l) λg a=>h g (by simp[a])
  have e:∀d,iT (f::l) d=iT l d+if f.1=d then 1 else 0:=λd=>by
   unfold iT;by_cases e:f.1=d
   .simp[e]
   simp[e]
  have c:=h f (by simp);have i:∀n,((List.range n).map (iT (f::l))).sum=((List.range n).map (iT l)).sum+if f.1<n then 1 else 0:=by
   intro n
   induction n with
   |zero=>simp
   |succ n b=>
    rw[mM,ga,OL,ga,OL,b];simp only[ip,uV,K9,agm,r9,e]
    repeat' split
    all_goals omega
  simp_all
theorem l7.Fq{I p w}(g:l7 l c d f I d f I p w e b h){i n:Nat}(q:a<c)(r:h.cp a 2=aa k c m):l7 l c d f I d f I p w (e.setCell (K k i) (A n)) (Kk b a i n) h:=by
 obtain⟨t,u⟩:=g.1.apQ q (i:=i) (n:=n) r;have v:(h.cp a 2).ownBlock=some k:=by rw[r];rfl
 refine g.trans ⟨t,u,λj s=>⟨s,dE λo=> ?_⟩,rfl⟩;subst o;exact g.1.oa j s (g.1.xB a q j v)
theorem l7.beside{p}(j:l7 c k d f i d f i p e n b h){u:Value}(r:∀g,g<e.heap.size->g≠a)(hF:∀g,d g->g<e.heap.size)(s:∀g,f g->g<e.heap.size)(q:∀g,i g->g<e.heap.size):l7 c k d f i d f i p e (n.setCell (K a l) u) b h:=by
 have o:∀g,g<e.heap.size->(n.setCell (K a l) u).heap[g]?=n.heap[g]?:=λg m=>dE (r g m)
 exact⟨j.1.hA (by simp) (λg m=>o g (hF g m)) (λg m=>o g (s g m)) (λg m=>o g (q g m)),⟨j.2.1.os,j.2.1.tape,j.2.1.output,by simpa using j.2.1.size,λg m t=>(o g m).trans (j.2.1.other g m t),λg m=>.inl m⟩,λg m=>⟨m,(o g (q g m)).trans (j.2.2.1 g m).2⟩,j.2.2.2⟩
def An (N:Nat) (P:Nat->List bT) (a:Nat->Nat):List PId:=(List.range N).map (sX P a)
theorem B9.aq1 {P:Nat->List bT} {l:Nat->Nat} (h:B9 c P l j) {b:Int} (q:a<=j.length) (m:rC (An c P (iT (j.take a))) (λd=>decide (l d<=iT (j.take a) d)) c b):
  (a=j.length/\b= -1)\/∃q:a<j.length,b=(j[a].1:Int):=by
 have v:(An c P (iT (j.take a))).length=c:=by simp[An]
 by_cases e:a<j.length
 .refine .inr ⟨e,?_⟩;obtain⟨f,w,x,r⟩:=h.at' a e;rcases m with⟨_,s⟩|⟨i,t,g,rfl,k,n⟩
  .have :=S6 (s _ f);omega
  rw[K2]at k;by_cases o:i=j[a].1
  .rw[o]
  have y:=r i g o (by omega);have u:=n j[a].1 (by omega) f (by simp;omega);simp only[An,pn,agb]at u
  simp_all
 have p:a=j.length:=by omega
 refine .inl ⟨p,?_⟩;rcases m with⟨f,_⟩|⟨i,t,g,rfl,k,n⟩
 .exact f
 rw[K2,p,wv,h.all i g]at k;omega
def aq2 (r N:Nat) (F L I:Nat->Prop) (S:bP) (c:Nat) (q:List (Nat×Nat)) (a:Nat->Value) (w:World) (e:Ending) (b:World):Prop:=∃k,k<=q.length/\(∀f∈q.take k,(List.range N).all (mJ S c f.1 f.2)=true)/\(∀d:k<q.length,(List.range N).all (mJ S c q[k].1 q[k].2)=false)/\e=ad (.tuple #[A (DS (S.df c) (q.take k)),A 0])/\j7 r N F L I a w b (p0 S c (q.take k))
theorem c3.ae5(g:c3 e l d f i k b h){a:Nat->Nat}(r:c<k)(s:a c<(b.P c).length):∃j o n,h.bi c=aa j n o/\a c<n/\n<=o/\e.cell? (K j (a c*15))=some (A (sX b.P a c).1)/\e.cell? (K j (a c*15+1))=some (A (sX b.P a c).2):=by
 have q:=g.cm.bN.fa c r;have t:=g.cm.ar c r;have m:a c<(h.cops c).length:=by rw[<-t,c2]at s;exact s
 obtain⟨v,o,u,w,_,x⟩:=bz q.1;obtain⟨j,rfl⟩:=x (a c) m;rw[u]at q;have y:sX b.P a c=(h.cops c)[a c].p.id:=by unfold sX;rw[<-t,Av,uX m];rfl
 rw[y];exact⟨j,o,_,u,m,w,lk.cell q rfl (a c) m 0 (by omega),lk.cell q rfl (a c) m 1 (by omega)⟩
theorem X7(b:J e n){d f g i j o p q r s t u v:Nat}{w x y z B C D E F:Value}(h:e.cell? (K a j)=some w/\e.cell? (K c o)=some x/\e.cell? (K k p)=some y/\e.cell? (K l q)=some z/\e.cell? (K m r)=some B/\e.cell? (K d s)=some C/\e.cell? (K f t)=some D/\e.cell? (K g u)=some E/\e.cell? (K i v)=some F):n.cell? (K a j)=some w/\n.cell? (K c o)=some x/\n.cell? (K k p)=some y/\n.cell? (K l q)=some z/\n.cell? (K m r)=some B/\n.cell? (K d s)=some C/\n.cell? (K f t)=some D/\n.cell? (K g u)=some E/\n.cell? (K i v)=some F:=
 ⟨ak b h.1,ak b h.2.1,ak b h.2.2.1,ak b h.2.2.2.1,ak b h.2.2.2.2.1,ak b h.2.2.2.2.2.1,ak b h.2.2.2.2.2.2.1,ak b h.2.2.2.2.2.2.2.1,ak b h.2.2.2.2.2.2.2.2⟩
def TrI (r N:Nat) (F L I:Nat->Prop) (S:bP) (c:Nat) (q:List (Nat×Nat)) (x:ef) (w:World) (n:Value) (wr:World):Prop:=∃k,k<=q.length/\n=A (DS (S.df c) (q.take k))/\(∀f∈q.take k,(List.range N).all (mJ S c f.1 f.2)=true)/\wr.heap[w.heap.size]?=some (.cells (nA N λd=>(iT (q.take k) d:Int)) 3)/\l7 r N F L I F L I x.vl w wr (p0 S c (q.take k)) x
theorem B9.sum {N:Nat} {P:Nat->List bT} {e:Nat->Nat} (h:B9 N P e j) {w:World} {g:Nat} (m:c<=j.length) (k:w.heap[g]?=some (.cells (nA N λd=>(iT (j.take c) d:Int)) 3)):Kw w g N=c:=by
 rw[ae4 (a:=iT (j.take c)) N λi b=>by simp[World.cell?,k,Hl b],Sh λf l=> ?_,gU]
 .omega
 obtain⟨i,b,rfl⟩:=mm.1 (mo l);exact(h.at' i b).1
theorem B9.next {N:Nat} {F:Nat->Prop} {x:ef} {W:World} (h:B9 N b.P (b.ai c) j) {ab:Nat} (r:a<j.length) (p:k=j[a].1) (q:ab=iT (j.take a) k) (B:∀i∈j.take a,(List.range N).all (mJ b c i.1 i.2)=true) (C:(List.range N).all (mJ b c j[a].1 j[a].2)=true) (u:W.heap[n.heap.size]?=some (.cells (nA N (upd (λg=>(iT (j.take a) g:Int)) k ((ab:Int)+1))) 3)) (D:m=DS (b.df c) (j.take a)) (s:l7 l N F d f F d f x.vl n W (if b.df c k<ab+1 then Kk (p0 b c (j.take a)) c k (ab+1) else p0 b c (j.take a)) x) {v:Value} (E:v=A ((m+if b.df c k<ab+1 then 1 else 0:Nat):Int)):TrI l N F d f b c j x n v W/\Kw W n.heap.size N=a+1:=by
 obtain⟨_,z,_⟩:=h.at' a r;have t:=lx r;have e:(upd (λg=>(iT (j.take a) g:Int)) k ((ab:Int)+1))=λg=>(iT (j.take (a+1)) g:Int):=by
  funext g;rw[t,X6,<-p];by_cases w:g=k
  .rw[w,bL,bn rfl,q];omega
  rw[ch _ _ w,a7 (eE w)];omega
 rw[e]at u;rw[<-p]at z;refine⟨⟨a+1,r,?_,λi o=> ?_,u,?_⟩,h.sum r u⟩
 .rw[E,t];unfold DS;rw[r6,dh,D];unfold DS;simp only[F6,Zf,<-p,z,<-q,Eb];split <;>simp
 .rw[t]at o;rcases dZ.1 o with o|o
  .exact B i o
  rw[fR]at o;rw[o];exact C
 rw[t];by_cases y:b.df c k<ab+1
 .rw[bn y]at s;rw[aq0 (by rw[<-p,<-q];exact y),<-p,<-q];exact s
 rw[a7 y]at s;rw[aqZ (by rw[<-p,<-q];omega)];exact s
theorem aq3 {w:World} {I:Nat->Prop} {x:ef} (h:c3 w k d f I c b x) (p:Nat) (M:p<c) (al:B9 c b.P (b.ai p) j) (Df:j.length<=240) (nw:∀i,i<c->b.df p i<=60):
  O 124 #[Z k,A p] w λe w'=>aq2 k c d f I b p j x.vl w e w':=by
 have hN:=h.cm.bN.hN;have ew:=ag (show ∀i,i<c->b.ai p i<=(b.P i).length from λi hi=>by have :=h.cm.bN.eb p i M hi;rw[<-h.cm.ar i hi,c2];omega)
 obtain⟨dy,fy,a0,bw,ck,bm,a2,bq,a3,ce,F,Cr,h4,eh,dN,dm,hK,aD,cY,D,n3,Hs,Ka,Xy,r0,Ai,_,_,_⟩:=h.B5 M;have gX:w.cell? (H k)=some (A c):=by simp[World.cell?,h.cm.bN.aP]
 have du:=ag (vd h.cm.bN (p:Int));have qa:(0:Int)<=(p:Int):=by simp
 have jT:(p:Int)<(c:Int):=by omega
 have ao:decide ((0:Int)<=(p:Int)/\(p:Int)<(c:Int))=true:=by simp;omega
 rw[ao]at du;have aT:=ag h;have dV:=ag al;have o1:=ag nw;have HQL:=ag Df;have uv:=ag (aN h.cm.lt (aN h.lt h.cI));have CR:=LC c hN;have dv:=ag (aN F D);have HE0:=ag aD;clear h al nw r0 Ai F aD cY D n3 dN hK ao Df;go_enter func124,ntmps124;go_wp2_with fail
 refine du.o.mono ?_;rintro e C ⟨rfl,rfl⟩;go_wp2_with fail
 go_loopw [9] (λn wr=>TrI k c d f I b p j x C n wr) (λ_ wr=>j.length-Kw wr C.heap.size c)
 case atStart=>
  have L:=aV C (.cells (ot c) 3);refine⟨0,b6 _,rfl,λs aH=>by simp at aH,?_,?_⟩
  .rw[show(λl=>(iT (j.take 0) l:Int))=λ_=>0 from rfl,<-W9];exact bZ C _
  rw[Ga,ae3];exact⟨aT.o.ak L,dp.cL L,λr R=>⟨R,L.block r (aT.o.cI r R)⟩,rfl⟩
 case round=>
  obtain⟨r,R,rfl,vS,hblk,eg⟩:=hrel;obtain⟨W,fk⟩:∃W,W=wr:=⟨_,rfl⟩;subst fk;obtain⟨a,aE⟩:∃a,a=iT (j.take r):=⟨_,rfl⟩;rw[<-aE]at hblk;obtain⟨qO,GN⟩:∃qO,qO=DS (b.df p) (j.take r):=⟨_,rfl⟩;rw[<-GN];have En:=ag GN;clear GN;have ib:=ag eg.1;obtain⟨uQ,Nv,c4,d0,bK,d1,b8,d2,hT,d3,F,_,q2',k0',k1',k2',k3',aD,cY,D,n3,Fh,Gt,C0,r0,Ai,_,_,_⟩:=eg.1.B5 M;rw[dv.o.1]at F;simp only[oO,po,tU,sb,qJ]at F;obtain⟨rfl,rfl⟩:=F;have RV:W.cell? (H k)=some (A c):=by simp[World.cell?,eg.1.cm.bN.aP]
  have Dd:=ag r0;have lZ:=ag Ai;have xH:=ag eg;have Si:=ag vS;have Dc:=ag hblk;have S:=ag aE;have qA:=ag D;obtain⟨gO,rD,_,_,I5,_,Gy,_,ae6,_⟩:=eg.1.cm.bN.row (by omega);have q1r:=eg.1.cm.bN.bm;rw[I5]at q1r;have El:=ag ae6;clear eg vS hblk aE aD cY D n3 k1' k3' r0 Ai I5 ae6 q2';go_wp2_with fail
  go_loopw [10,11] (λq i kO=>∃l:Nat,∃z:Int,l<=c/\i=A l/\q=A z/\rC (An c b.P a) (λl=>decide (b.ai p l<=a l)) l z/\J W kO) (λ_ i _=>c-(intOf i).toNat)
  case atStart=>exact⟨0,-1,b6 _,rfl,rfl,.inl ⟨rfl,λt aB=>absurd aB (xK _)⟩,ca _ _⟩
  case round=>
   obtain⟨l,z,ao,rfl,rfl,N,y⟩:=hrel;have q0i:=ak y RV;have zm:=ag N;have t9:=ag y;by_cases BU:l<c
   .have In:=ak y (show W.cell? (V C l)=some (A (a l)) by simp[World.cell?,Dc.o,Hl BU]);have k0i:=ak y k0';have NN:=ak y (Dd.o l BU);have au9:(0:Int)<=(l:Int):=by simp
    have ava:(l:Int)<(c:Int):=by omega
    have jQ:(An c b.P a).length=c:=by simp[An]
    by_cases U:a l<b.ai p l
    .obtain⟨go,gk,n,aO,ma,lj,X,B⟩:=ib.o.ae5 (a:=a) BU (c0 U (ew.o l BU));have co:=ak y (El.o l BU);rw[aO]at co;replace X:=ak y X;replace B:=ak y B;have q1i:=ak y q1r;have aH:(λl=>decide (b.ai p l<=a l)) l=false:=by simp;omega
     have dX:=ag aH;obtain⟨E,Y⟩:∃E,E=a l:=⟨_,rfl⟩;obtain⟨Q,kJ⟩:∃Q,Q=b.ai p l:=⟨_,rfl⟩;have fF:=ag (show sX b.P a l=(An c b.P a)[l]'(by omega) by simp[An]);replace X:wr.cell? (K go (E*15))=some (A (sX b.P a l).1):=by rw[Y];exact X
     replace B:wr.cell? (K go (E*15+1))=some (A (sX b.P a l).2):=by rw[Y];exact B
     obtain⟨id,C4⟩:∃id,id=sX b.P a l:=⟨_,rfl⟩;rw[<-C4]at X B fF;rw[<-Y]at In U ma;have aq4:wr.cell? (K c4 l)=some (A (Q:Nat)):=by rw[kJ];exact NN
     rw[<-kJ]at U;have gB:decide (Q<=E)=false:=by simp;omega
     have dG:go<wr.heap.size:=e7 wr _ X;rcases N.shape with rfl|⟨m,hm,rfl⟩
     .clear N y NN Y kJ U co X B aH C4 aO;go_wp2;go_quiet (fail)
      go_wp2;go_roundw
      case rel=>exact⟨l+1,l,by omega,by go_num,rfl,zm.o.first (by omega) dX.o,io t9.o _⟩
      case measure=>simp[intOf];omega
     have Sj:m<c:=by omega
     have vX:a m<b.ai p m:=by
      rcases N with⟨e,_⟩|⟨t,aB,hjd,e,TE,_⟩
      .omega
      have :m=t:=by omega
      subst this;simpa using TE
     obtain⟨aQ,av4,ir,dP,aq5,avb,fj,gv⟩:=ib.o.ae5 (a:=a) Sj (c0 vX (ew.o m Sj));have cp:=ak y (El.o m Sj);rw[dP]at cp;have cam:=ak y (show W.cell? (V C m)=some (A (a m)) by simp[World.cell?,Dc.o,Hl Sj]);replace fj:=ak y fj;replace gv:=ak y gv;have bR:=ag (show sX b.P a m=(An c b.P a)[m]'(by omega) by simp[An]);obtain⟨am,Sk⟩:∃am,am=a m:=⟨_,rfl⟩;replace fj:wr.cell? (K aQ (am*15))=some (A (sX b.P a m).1):=by rw[Sk];exact fj
     replace gv:wr.cell? (K aQ (am*15+1))=some (A (sX b.P a m).2):=by rw[Sk];exact gv
     obtain⟨Ah,Ut⟩:∃Ah,Ah=sX b.P a m:=⟨_,rfl⟩;rw[<-Ut]at fj gv bR;rw[<-Sk]at cam aq5;have pp:(0:Int)<=(m:Int):=by simp
     have nu:(m:Int)<(c:Int):=by omega
     have I2:decide ((m:Int)<0)=false:=by simp
     have cr:=ag (ZW id Ah);have MB:=ag (aN q1i (aN co (aN In (aN X (aN B (aN cp (aN cam (aN fj gv))))))));have HHM:=ag hm;clear N y NN Y kJ U aH C4 aO dP Sk Ut vX;go_wp2;go_quiet (fail)
     go_wp2;go_region_held3 (λW=>W.cell? (K k 1)=some (aa gO c rD)/\W.cell? (K gO l)=some (aa go n gk)/\W.cell? (V C l)=some (A E)/\W.cell? (K go (E*15))=some (A id.1)/\W.cell? (K go (E*15+1))=some (A id.2)/\W.cell? (K gO m)=some (aa aQ ir av4)/\W.cell? (V C m)=some (A am)/\W.cell? (K aQ (am*15))=some (A Ah.1)/\W.cell? (K aQ (am*15+1))=some (A Ah.2)) (first |exact aq6.o|exact X7 (io (ca _ _) _) MB.o|exact X7 (io (ca _ _) _).drew MB.o)
      (first |(go_at_call 158;refine(cr.o _).mono ?_;rintro e w' ⟨rfl,gC⟩;have ng:=ag ((io (OM wr) _).drew.trans (gC.mono (by simp)));have aq6:=ag (X7 ng.o MB.o);clear gC))
     cases L:qM id Ah
     .go_wp2;go_roundw
      case rel=>exact⟨l+1,m,by omega,by go_num,rfl,zm.o.OV (by omega) HHM.o (by rw[<-fF.o,<-bR.o];exact L),bp t9.o ng.o⟩
      case measure=>simp[intOf];omega
     go_wp2;go_roundw
     case rel=>exact⟨l+1,l,by omega,by go_num,rfl,zm.o.better (by omega) HHM.o dX.o (by rw[<-fF.o,<-bR.o];exact L),bp t9.o ng.o⟩
     case measure=>simp[intOf];omega
    have gY:=ag (N.taken (by simp;omega));obtain⟨E,Y⟩:∃E,E=a l:=⟨_,rfl⟩;obtain⟨Q,kJ⟩:∃Q,Q=b.ai p l:=⟨_,rfl⟩;rw[<-Y]at In U;have aq4:wr.cell? (K c4 l)=some (A (Q:Nat)):=by rw[kJ];exact NN
    rw[<-kJ]at U;have gB:decide (Q<=E)=true:=by simp;omega
    clear N y NN Y kJ U;go_wp2;go_quiet (fail)
    go_wp2;go_roundw
    case rel=>exact⟨l+1,z,by omega,by go_num,rfl,gY.o,io t9.o _⟩
    case measure=>simp[intOf];omega
   have uN:l=c:=by omega
   subst uN;have aq7:=dV.o.aq1 R (by rw[<-S.o];exact N);have ae7:=ag (xH.o.dn y);have X9:=ag ((y.block _ (aU Dc.o)).trans Dc.o);rcases aq7 with⟨ua,rfl⟩|⟨LZ,rfl⟩
   .have HEK:=ag ua;clear N y ua;go_wp2;go_ret2
    exact(show ∃r,_ from⟨r,R,Si.o,λh=>absurd HEK.o (by omega),by rw[En.o];rfl,ae7.o.to⟩)
   obtain⟨q,L⟩:∃q,q=j[r].1:=⟨_,rfl⟩;have bf:=ag L;obtain⟨B,b4,lT,_⟩:=dV.o.at' r LZ;rw[<-S.o,<-L]at b4 lT;rw[<-L]at B⊢;have mA:=ag b4;have b60:a q<60:=by have h1:=ew.o q B;have h2:=ib.o.cm.bN.cw q B;have ax:=ib.o.cm.ar q B;have a8:=kq List.length ax;rw[c2]at a8;have cP:(b.P q).length=(x.cops q).length:=a8.symm;omega
   have In:wr.cell? (V C q)=some (A (a q)):=by simp[World.cell?,X9.o,Hl B]
   have ZX:=cV X9.o q;obtain⟨ab,c8⟩:∃ab,ab=a q:=⟨_,rfl⟩;rw[<-c8]at In b60;have mw:IntKind.i64.wrap ((ab:Int)+1)=(ab:Int)+1:=mN _ (by omega);have bj:(0:Int)<=(q:Int):=by simp
   have aA:(q:Int)<(l:Int):=by omega
   have zl:decide ((q:Int)<0)=false:=by simp
   obtain⟨o6,qp⟩:∃o6,o6=wr.setCell (V C q) (A ((ab:Int)+1)):=⟨_,rfl⟩;have Ya:=ag (show o6.heap[C.heap.size]?=some (.cells (nA l (upd (λl=>(a l:Int)) q ((ab:Int)+1))) 3) by rw[qp,setRow X9.o,abV]);have Sl:=ag (show l7 k l d f I d f I x.vl C o6 (p0 b p (j.take r)) x by rw[qp];exact ae7.o.beside (λr R=>by omega) uv.o.1 uv.o.2.1 uv.o.2.2);have ca2:o6.cell? (V C q)=some (A ((ab:Int)+1)):=by simp[World.cell?,Ya.o,Hl B,bL]
   have pB:=ag (aqY Sl.o.1 p q (ab+1) M B);have Ij:=ag c8;have si:=ag B;have aq8:=ag (show(List.range l).all (mJ (p0 b p (j.take r)) p q (ab+1))=(List.range l).all (mJ b p j[r].1 j[r].2) by rw[<-bf.o,mA.o,<-c8];rfl);have hn9:qO<=240:=by rw[En.o];unfold DS;have h1:=r7 (λs:Nat×Nat=>decide (b.df p s.1<s.2)) (j.take r);have h2:=HQL.o;rw[gU]at h1;omega
   have aq9:=ag (show(p0 b p (j.take r)).df p q=max (b.df p q) ab by unfold p0;rw[c8,S.o];simp only[bL]);have gp:o6.cell? (K b8 q)=some (A (max (b.df p q) ab:Nat)):=by obtain⟨uQ,Nv,_,_,_,_,EC,d2',_,_,F,_,_,_,_,_,_,_,_,D,_,_,_,_,_,Ai,_,_,_⟩:=Sl.o.1.B5 M;rw[qA.o]at D;simp only[oO,po,tU,sb,qJ]at D;obtain⟨rfl,rfl⟩:=D;rw[Ai q B,aq9.o]
   have zS:o6.cell? (K dy (p*4+2))=some (aa b8 l d2):=by obtain⟨uQ,Nv,_,_,_,_,EC,d2',_,_,F,_,_,_,_,h2,_,_,_,D,_,_,_,_,_,_,_,_,_⟩:=Sl.o.1.B5 M;rw[dv.o.1]at F;rw[qA.o]at D;simp only[oO,po,tU,sb,qJ]at F D;obtain⟨rfl,rfl⟩:=F;obtain⟨rfl,rfl⟩:=D;exact h2
   obtain⟨nk,k1⟩:∃nk,nk=max (b.df p q) ab:=⟨_,rfl⟩;rw[<-k1]at gp;have wU:=ag k1;have avc:nk<=60:=by have :=o1.o q B;omega
   clear zm N y L b4 lT c8 k1;go_wp2_with fail
   rw[<-qp];refine pB.o.mono ?_;rintro e w2 ⟨rfl,bo⟩;rw[aq8.o];have Kx:=ag (Sl.o.dn bo);have Sm:=ag ((bo.block _ (aU Ya.o)).trans Ya.o);have ca3:=ak bo ca2;have cl3:=ak bo gp;have cg3:=ak bo zS;clear bo ca2 gp zS;cases jr:(List.range l).all (mJ b p j[r].1 j[r].2)
   .have dX:=ag jr;go_wp2;go_ret2
    exact(show ∃r,_ from⟨r,R,Si.o,λh=>dX.o,by rw[En.o];rfl,Kx.o.to⟩)
   have dX:=ag jr;have sV:=ag (dV.o.sum R (by rw[<-S.o];exact Dc.o));by_cases oT:nk<ab+1
   .have aL:b.df p q<ab+1:=by have :=wU.o;omega
    have Hw:=ag aL;have e9:decide ((nk:Int)<(ab:Int)+1)=true:=by simp;omega
    have j8:w2.frozen? (K b8 q)=false:=by have js:=Kx.o.1.df p M;obtain⟨cur,cH⟩:=b0 js (g:=b8) (by rw[qA.o];rfl);exact cV cH q
    have QG:IntKind.i64.wrap ((qO:Int)+1)=(qO:Int)+1:=mN _ (by omega);have avd:=ag (Kx.o.Fq M (i:=q) (n:=ab+1) qA.o);have bI:b8≠C.heap.size:=λe=>by have :=uv.o.2.1 b8 (Kx.o.1.xB p M b8 (by rw[qA.o];rfl));omega
    clear oT aL;go_wp2;go_quiet (fail)
    go_wp2;go_region
    all_goals go_wp2
    all_goals
     have nU:=io (OM w2) (nq+1);have ae8:=(Kx.o.dn nU).Fq M (i:=q) (n:=ab+1) qA.o;have ae9:=(dE (w:=w2.drewN (nq+1)) (o:=q) (u:=A ((ab:Int)+1)) (eE bI)).trans ((nU.block _ (aU Sm.o)).trans Sm.o);have key:=dV.o.next (ab:=ab) LZ bf.o (by rw[Ij.o,S.o]) Si.o dX.o (by rw[<-S.o];exact ae9) En.o (by rw[bn Hw.o];exact ae8) (v:=A ((qO:Int)+1)) (by rw[bn Hw.o];rfl);have NO:=ag key;clear key nU ae8 ae9;go_roundw
     case rel=>exact NO.o.1
     case measure=>rw[NO.o.2,sV.o];omega
   have aL:¬b.df p q<ab+1:=by have :=wU.o;omega
   have Hw:=ag aL;have e9:decide ((nk:Int)<(ab:Int)+1)=false:=by simp;omega
   clear oT aL;go_wp2;go_quiet (fail)
   go_wp2;have nU:=io (OM w2) nq;have key:=dV.o.next (ab:=ab) LZ bf.o (by rw[Ij.o,S.o]) Si.o dX.o (by rw[<-S.o];exact(nU.block _ (aU Sm.o)).trans Sm.o) En.o (by rw[a7 Hw.o];exact Kx.o.dn nU) (v:=A (qO:Int)) (by rw[a7 Hw.o];rfl);have NO:=ag key;clear key nU;go_roundw
   case rel=>exact NO.o.1
   case measure=>rw[NO.o.2,sV.o];omega
end
