/- Our own text. -/
import Derived.Deep.DeepCutAuto
import Derived.Deep.RegionHeld3
import Derived.Deep.DrawnRows
import Derived.Deep.CutBlock
import Derived.Lib.AppendZerosOnto
import Derived.Test.YtnkpogjiiohapaaGreatDoorA36
import Derived.Test.YtnkpogjiiohapaaGreatDoorA38
import Derived.Test.YtnkpogjiiohapaaGreatDoorA37
set_option linter.unusedSimpArgs false
set_option linter.unusedVariables false
set_option maxRecDepth 1000000
set_option maxHeartbeats 8000000
namespace Go.Proofs.YtnkpogjiiohapaaGreatDoor
section
open Go.RowKit Tryz
theorem SJ{w}(size bytes:Nat)(t e:TypeId)(z:Value)(p:(prog.info? e).map (fun i=>(i.zero,i.size,i.bytes))=some (some z,size,bytes))(q:prog.underlying t=some (.slice e))(r:z.cells.size=size)(y:0<size){l:Array Oper}{rest:List Oper}{o:Oper}{a:Act}{Q:Exit->Act->World->Prop}(B:o.guard=none)(s x:Operand)(C:o.op=.call {callee:=.builtin .append,args:= #[s,x],argTypes:= #[t,t]})(v:Value)(n:Nat)(D:a.eval s=v)(E:Shape e size w v n)(g m c:Nat)(F:0<m)(I:a.eval x=.slice (some (H g)) m c)(f:Array Value)(L:w.heap[g]?=some (.cells f e (0,0)))(M:f.size=m*size)(N:∀u∈f.toList,u.oneCell'=true)(R:(n+m)*bytes<=140737488355328)(S:n+m<=maxLen)(h:∀b k d,Shape e size d (.slice (some (H b)) (n+m) k) (n+m)->b5 e v w d->(v.ownBlock=some b\/w.heap.size<=b)->wpList prog l Q rest (a.put o.dst (.slice (some (H b)) (n+m) k)) d):wpList prog l Q (o::rest) a w:=by
 obtain⟨i,U,W,X,Y⟩:=info_parts p;obtain⟨b,k,d,aI,h2,ak,aL⟩:=aaz (P:=prog) w t o.type e i z size bytes q U W X Y r y v n E (H g) m c F f.toList (by simpa using M)
  (fun j u hu=>by
   have :((H g):Addr).add j=(K g j):=by unfold Addr.add;split <;>simp_all
   rw[this,cell_of_row w g j f e (0,0) L];simpa using hu) N S R
 exact Lib.wpList_append_run w B s x t t C v _ D I _ d aI (h b k d h2 ak aL)
theorem alu{w:World}{l:Nat}{cW bX cV bQ:Value}{d:List Nat}{a:Option Addr}{n c:Nat}(az:w.heap[l]?=some (.cells #[cW,bX,cV,bQ] 84 (0,0)))(nx:d.length<2000000000000)(hn:n<2000000000000)(au:w.ownsRow 0 141 1 bQ d.length (d.flatMap kZ))(W:Shape 3 1 w (.slice a n c) n):
  O 112 #[.pointer (some (K l 1)),.slice a n c] w fun e w'=>e=.returned (.tuple #[])/\Ac 3 24 141 1 #[A (-7070-(d.length:Int))] w l (.slice a n c) bQ d n (fun x=> #[cW,bX,cV,x]) w':=by
 obtain⟨C,ac,rfl,nx,wI,qC⟩:=bp au;have y1:w.cell? (K l 3)=some (.slice C d.length ac):=by simp[World.cell?,az]
 have Br:IntKind.i64.wrap (-7070-(d.length:Int))= -7070-(d.length:Int):=apO _ (by omega);have E:=aa W;have tl:=aa W;have hv:=aa az;have bR:=aa au;clear az au qC;have X:=aa (show ∀q,w.heap.size<=q->¬((Value.slice a n c).ownBlock=some q) from fun q f B=>by have :=W.lt q B;omega);clear W;go_enter func112,ntmps112;go_upto_region 1 with fail
 go_cut [5] (fun p wc=>∃r,p=.slice (some (H r)) 4 4/\∃U,Nm 3 24 1 #[A (-7070-(d.length:Int))] w (.slice a n c) n r U wc)
 case first =>
  go_wp2_with (first
   |(at_builtin;refine SJ 1 8 24 3 (A 0) (by kernel_rfl) underlying24 rfl (by omega) rfl (.tmp 15) (.tmp 17) rfl (.slice a n c) n rfl (E.o.same ((b5.refl 3 (.slice a n c) w).alloc _).s) _ 1 1 (by omega) rfl #[A (-7070-(d.length:Int))] (bL w _) rfl (by simp[Value.oneCell']) (by omega) (by unfold maxLen;omega) ?_;intro b1 a6 w1 hD Y aq;have hz1:=Y.t.size;(try simp at hz1);have M:=aa hD;have fI:=aa (((b5.refl 3 (.slice a n c) w).alloc _).trans Y);have o4:=aa (show w1.heap[w.heap.size]?=some (.cells #[A (-7070-(d.length:Int))] 3 (0,0)) from(Y.t.other _ (by first |omega|(simp;done)|(simp;omega)) (X.o _ (aoP _))).trans (bL w _));have eS:(Value.slice a n c).ownBlock=some b1\/w.heap.size<b1:=(aq.imp id (fun B=>by(try simp at B);omega));clear hD Y aq)
   |(at_builtin;refine SJ 1 8 24 3 (A 0) (by kernel_rfl) underlying24 rfl (by omega) rfl (.tmp 19) (.tmp 22) rfl (.slice a n c) n rfl (E.o.same (fI.o.alloc _).s) _ 2 2 (by omega) rfl #[A (-7070-(d.length:Int)),A (-7070-(d.length:Int))] (bL w1 _) rfl (by simp[Value.oneCell']) (by omega) (by unfold maxLen;omega) ?_;intro a2 bd w2 eu N aU;have hz2:=N.t.size;(try simp at hz2);have my:=aa eu;have fc:=aa ((fI.o.alloc _).trans N);have ny:=aa (show w2.heap[w.heap.size]?=some (.cells #[A (-7070-(d.length:Int))] 3 (0,0)) from(N.t.other _ (by first |omega|(simp;done)|(simp;omega)) (X.o _ (aoP _))).trans ((ec (by first |omega|(simp;done)|(simp;omega))).trans o4.o));have iY:(Value.slice a n c).ownBlock=some a2\/w.heap.size<a2:=(aU.imp id (fun B=>by(try simp at B);omega));replace M:=aa (M.o.same (((b5.refl 3 (.slice a n c) w1).alloc _).s.trans N.s));clear eu N aU)
   |(at_builtin;refine SJ 1 8 24 3 (A 0) (by kernel_rfl) underlying24 rfl (by omega) rfl (.tmp 24) (.tmp 28) rfl (.slice a n c) n rfl (E.o.same (fc.o.alloc _).s) _ 3 3 (by omega) rfl #[A (-7070-(d.length:Int)),A (-7070-(d.length:Int)),A (-7070-(d.length:Int))] (bL w2 _) rfl (by simp[Value.oneCell']) (by omega) (by unfold maxLen;omega) ?_;intro a3 bV P lY F a8;have mM:=F.t.size;(try simp at mM);have e5:=aa lY;have ht:=aa ((fc.o.alloc _).trans F);have pd:=aa (show P.heap[w.heap.size]?=some (.cells #[A (-7070-(d.length:Int))] 3 (0,0)) from(F.t.other _ (by first |omega|(simp;done)|(simp;omega)) (X.o _ (aoP _))).trans ((ec (by first |omega|(simp;done)|(simp;omega))).trans ny.o));have hK:(Value.slice a n c).ownBlock=some a3\/w.heap.size<a3:=(a8.imp id (fun B=>by(try simp at B);omega));replace M:=aa (M.o.same (((b5.refl 3 (.slice a n c) w2).alloc _).s.trans F.s));replace my:=aa (my.o.same (((b5.refl 3 (.slice a n c) w2).alloc _).s.trans F.s));clear lY F a8))
  all_goals go_meet
  all_goals exact⟨_,rfl,Sz (bL P _) ((ec (by first |omega|(simp;done)|(simp;omega))).trans pd.o) (E.o.same (ht.o.alloc _).s) (M.o.same ((b5.refl 3 (.slice a n c) P).alloc _).s) (my.o.same ((b5.refl 3 (.slice a n c) P).alloc _).s) (e5.o.same ((b5.refl 3 (.slice a n c) P).alloc _).s) eS iY hK (ht.o.alloc _).t (by omega)⟩
 case rest=>
  obtain⟨r,rfl,U,vc⟩:=hcut;have yk:=aa E.o.lt;clear X E;go_wp2;go_loopw [6] (fun i wr=>∃k:Nat,k<=4/\i=A k/\vy 3 24 1 #[A (-7070-(d.length:Int))] w (.slice a n c) n r U k 0 wr) (fun i _=>4-(intOf i).toNat)
  case atStart=>exact⟨0,by omega,rfl,vc,fun lk h=>absurd h (ap5 _),j3.zero _ _ _ _⟩
  case round=>
   obtain⟨k,hk,rfl,I⟩:=hrel;obtain⟨v,rZ⟩:∃v,v=wr:=⟨_,rfl⟩;subst rZ;by_cases Q:k<4
   ·obtain⟨Jk,Ef,hu,hX⟩:=I.gg.form Q
    have pA:=aa hX;clear hX;have Jl:=aa I;clear I vc;have h5:(0:Int)<=(k:Int):=ao0 _;have ql:(k:Int)<4:=by omega
    go_wp2;go_loopw [7] (fun i hd=>∃j:Nat,j<=n+k/\i=A j/\vy 3 24 1 #[A (-7070-(d.length:Int))] w (.slice a n c) n r U k j hd) (fun i _=>n+k-(intOf i).toNat)
    case atStart=>exact⟨0,aoR _,rfl,Jl.o⟩
    case round=>
     obtain⟨j,ar,rfl,f⟩:=hrel;have eJ:=f.gg.cell Q;rw[hu]at eJ;by_cases ix:j<n+k
     ·obtain⟨g,rfl⟩:=pA.o j ix
      have R:=f.gg.s k Q;rw[hu]at R;obtain⟨u0,t0⟩:=R.cell (q:=0) ix (by omega);have an2:=R.Ck;have Aa:w.heap.size≠g:=fun y=>by
       rcases f.gg.b k Q g (by rw[hu];rfl) with L|L
       ·have :=yk.o _ L;omega
       ·omega
      have j8:=aa f;clear f;simp only[apL,aqf]at t0;have Ap:(0:Int)<=(j:Int):=ao0 _;have r6:(j:Int)<((n+k:Nat):Int):=by omega
      have mv:r≠g:=fun y=>by
       subst y;obtain⟨D,m⟩:=R.type rfl;exact absurd (bz j8.o.gg.row m) (by decide)
      clear R;go_wp2;go_roundw
      case rel=>exact⟨j+1,by omega,by go_num,by have al:=j8.o.next yk.o (by decide) rfl Q hu ix;rw[aqf]at al;exact al⟩
      case measure=>simp[intOf];omega
     ·have q4:j=n+k:=by omega
      subst q4;go_wp2;go_roundw
      case rel=>
       refine⟨k+1,by omega,by go_num,f.gg,fun lk eL=> ?_,j3.zero _ _ _ _⟩;by_cases wa:lk=k
       ·subst wa;exact f.part
       ·exact f.full lk (by omega)
      case measure=>simp[intOf];omega
   ·have ql:k=4:=by omega
    subst ql;have z:=aa I.gg;have ot:=aa (show ∀i,i<4->j3 1 #[A (-7070-(d.length:Int))].toList v (U i) (n+i) from I.full);clear I;have xg:¬((Value.slice a n c).ownBlock=some l):=fun B=>by
     obtain⟨D,m⟩:=tl.o.type B;exact absurd (bz m hv.o) (by decide)
    have S:=aa ((z.o.t.other l (aM hv.o) xg).trans hv.o);have D8:∀q,(Value.slice C d.length ac).ownBlock=some q->¬((Value.slice a n c).ownBlock=some q):=fun q L h2=>by
     obtain⟨D,m⟩:=bt bR.o L;obtain⟨Jm,fZ⟩:=tl.o.type h2;exact absurd (bz m fZ) (by decide)
    have h8:=aa (b4 bR.o (w':=v) fun q f=>z.o.t.other q (aoT bR.o q f).2 (D8 q f));have an3:v.cell? (K l 3)=some (.slice C d.length ac):=by simp[World.cell?,S.o]
    have cP:=aM S.o;have lM:=aa (show(v.alloc (.cells #[.slice (some (H r)) 4 4] 141)).ownsRow 0 141 1 (.slice C d.length ac) d.length (d.flatMap kZ) from c5 h8.o (by go_grown));have n9:=aa (show ∀j u,(kZ r)[j]?=some u->(v.alloc (.cells #[.slice (some (H r)) 4 4] 141)).cell? (V v j)=some u from one_cell (by simp[go_sem]));have pT:=aa (show some l≠(Value.slice C d.length ac).ownBlock from fun y=>by
     obtain⟨D,m⟩:=bt h8.o y.symm;exact absurd (bz m S.o) (by decide))
    go_wp2_with (first
     |(at_builtin;refine zd kZ 1 24 80 141 (.slice none 0 0) (by kernel_rfl) underlying80 rfl (by omega) (fun _=>rfl) rfl (.tmp 57) (.tmp 59) rfl 0 (.slice C d.length ac) d rfl lM.o v.heap.size 1 r rfl n9.o (by simp[kZ,Value.oneCell']) (by omega) (by unfold maxLen;omega) (aoR _) ?_;intro v4 w4 hj dB gp;have eE:=aa hj;have kF:=aa dB;have jw:=aa gp;have gn:=aa ((dB.block l (by simp;omega) pT.o).trans ((ec (by omega)).trans S.o));clear hj dB gp;obtain⟨a4,kc,rfl,q0,ta,ub⟩:=bp eE.o;clear q0 ta ub;have bd:w4.cell? (K l 3)=some (.slice C d.length ac):=(by simp[World.cell?,gn.o]);have vH:=cS gn.o 3))
    have tb:(Value.slice a4 (d.length+1) kc).ownBlock≠some l:=fun y=>by
     obtain⟨D,m⟩:=bt eE.o y;exact absurd (bz m gn.o) (by decide)
    have ky:∀(q:Nat) (D:Array Value) (t:TypeId),v.heap[q]?=some (.cells D t (0,0))->t≠141->t≠84->(w4.setCell (K l 3) (.slice a4 (d.length+1) kc)).heap[q]?=v.heap[q]?:=fun q D t f L h2=>by
     have Jn:q≠l:=fun y=>by subst y;exact h2 (bz f S.o)
     have DJ:some q≠(Value.slice C d.length ac).ownBlock:=fun y=>by
      obtain⟨Jm,m⟩:=bt h8.o y.symm;exact L (bz f m)
     have Bi:=aM f;exact(dI Jn).trans ((kF.o.block q (by simp;omega) DJ).trans (ec (by omega)))
    go_end0
    refine⟨rfl,.slice a4 (d.length+1) kc,r,U,KI gn.o,iW eE.o tb _,?_,?_,?_,z.o.gl,z.o.b⟩
    ·exact(z.o.t.mono fun q f=>.inr (.inl f)).trans ((aP.cQ ((aoQ _ v).alloc (aoP _) _)).trans ((aP.rN kF.o fun q f=>.inr (.inr f)).trans (aP.lf _ (.inl rfl))))
    ·exact jw.o.mono (aoS z.o.t.size (by simp))
    ·refine qB.af ⟨z.o.row,z.o.s,ot.o⟩ (ky r _ 24 z.o.row (by decide) (by decide)) fun i hi g ah=> ?_
     obtain⟨D,m⟩:=(z.o.s i hi).type ah;exact ky g _ 3 m (by decide) (by decide)
end
section
open Go.RowKit Tryz
attribute [local go_sem ↓] Go.wp_at_zero Go.wp_at_succ
variable {a:World}{b d f:Nat}{e:Nat->Prop}
theorem aaN{l}{c:Nat}(h:qp 0 a (.slice (some (H b)) d c) l)(e:d=l.length)(i:Nat)(g:i<l.length):a.cell? (K b i)=some (A l[i]):=by
 subst e;have :=iw (f:=wu) (k:=1) (fun _=>rfl) h rfl i g 0 (by omega);simpa[wu]using this
theorem alv{c b l}(j:qp 0 a c l)(m:qp 0 a b l):
  O 111 #[c,b] a fun e q=>e=.returned (.bool true)/\J a q:=by
 obtain⟨x,ac,rfl,y,r,n⟩:=bp j;obtain⟨z,B,rfl,C,s,p⟩:=bp m;unfold maxLen at r s;have t:=aa j;clear j;have u:=aa m;clear m;have v:=aa n;clear n;have w:=aa p;clear p;go_enter func111,ntmps111;go_wp2;go_loopw [5] (fun i wr=>∃k:Nat,k<=l.length/\i=A k/\J a wr) (fun i _=>l.length-(intOf i).toNat)
 case atStart=>exact⟨0,aoR _,rfl,aoQ _ _⟩
 case round=>
  obtain⟨k,D,rfl,d⟩:=hrel;by_cases f:k<l.length
  ·obtain⟨g,rfl⟩:=v.o k f
   obtain⟨E,rfl⟩:=w.o k f;have F:=af d (aaN t.o (by simp) k f);have I:=af d (aaN u.o (by simp) k f);go_wp2;go_region
   all_goals go_wp2
   all_goals go_roundw
   case rel=>exact⟨k+1,by omega,by go_num,d.drew⟩
   case measure=>simp[intOf];omega
  ·go_wp2
   go_ret
   exact⟨rfl,d⟩
theorem alw{w i Q}(h:ki w i e Q)(o:jD)(eH:o.kind=12){R S U u:Value}{p:List Nat}(C:w.heap[f]?=some (.cells #[R,S,U,u] 84 (0,0)))(X:¬e f)(nx:p.length<2000000000000)(Y:w.ownsRow 0 141 1 u p.length (p.flatMap kZ))(B3:∀k,(u).ownBlock=some k->¬e k):
  O 69 #[Z f,Z i,.agg #[A o.kind,A o.r,A o.c,A o.d,A o.i1,A o.i2,A o.made,.string o.key,A o.a,A o.b,.bool o.yes]] w fun g w'=>g=.returned (.bool true)/\∃wm v n s,ki wm i s Q/\c0 e s w wm/\(∀k,s k->e k)/\(∀k,v.ownBlock=some k->w.heap.size<=k)/\wm.heap[f]?=w.heap[f]?/\Ac 3 24 141 1 #[A (-7070-(p.length:Int))] wm f v u p n (fun x=> #[R,S,U,x]) w':=by
 obtain⟨x,r,bC,told,cA,cC,N,sp,P,jU,h⟩:=h;rw[eH];have aK:=aa ((aoQ w.heap.size w).alloc (aoP _) (.cells #[A 12,A o.r,A o.c,A o.d,A o.i1,A o.i2,A o.made,.string o.key,A o.a,A o.b,.bool o.yes] 87));have D:=aa (bL w (.cells #[A 12,A o.r,A o.c,A o.d,A o.i1,A o.i2,A o.made,.string o.key,A o.a,A o.b,.bool o.yes] 87));have iB:=aa (bj h.blk aK.o);have dj:=aa (fun W (ab:J w W)=>alo h ab o.c);have fB:=aa (show ∀k,w.heap.size<=k->¬e k from fun k hk hF=>by have :=h.lt k hF;omega);have cP:=h.lt _ h.fr;have jE:=aa h.blk;have hv:=aa C;have Jt:=aa X;have bR:=aa Y;have rE:=aa B3;have uo:=aM C;clear h C X Y B3;go_enter func69,ntmps69;go_wp2_with fail
 go_region_held3 (fun W=>W.cell? (H i)=some (Z x)/\W.cell? (K i 1)=some (Z r)/\W.cell? (V w 0)=some (A 12)/\W.cell? (V w 2)=some (A o.c)/\W.cell? (V w 4)=some (A o.i1)/\W.cell? (V w 5)=some (A o.i2)/\W.cell? (V w 7)=some (.string o.key)/\W.cell? (V w 8)=some (A o.a)/\W.cell? (V w 9)=some (A o.b)/\W.cell? (V w 10)=some (.bool o.yes)) (first |exact ep iB.o D.o|exact ep dE.o y.o)
  (first |(go_at_call 25;refine(dj.o _ aK.o.drew).mono ?_;rintro g w1 ⟨v,m,l,rfl,jW,dd,c3,hD,e7⟩;have dE:=aa (dd.trans jE.o);have y:=aa ((c3 w.heap.size (aM D.o) (fB.o _ (aoP _))).trans D.o);have fI:=aa e7;have z:=aa (gC jW (show w.heap.size<=_ by first |omega|(simp;done)|(simp;omega)));clear dd c3 e7 jW;obtain⟨dp,de,rfl,vS,rn,sv⟩:=bp z.o;clear vS rn sv))
 go_wp2_with fail
 go_region_held3 (fun W=>W.cell? (H i)=some (Z x)/\W.cell? (K i 1)=some (Z r)/\W.cell? (V w 0)=some (A 12)/\W.cell? (V w 2)=some (A o.c)/\W.cell? (V w 4)=some (A o.i1)/\W.cell? (V w 5)=some (A o.i2)/\W.cell? (V w 7)=some (.string o.key)/\W.cell? (V w 8)=some (A o.a)/\W.cell? (V w 9)=some (A o.b)/\W.cell? (V w 10)=some (.bool o.yes)) (first |exact ep dE.o y.o|exact ep dD.o cz.o)
  (first |(go_at_call 110;refine(fI.o _ ((aoQ _ w1).drew)).mono ?_;rintro g w2 ⟨⟨v2,rfl,jR,hle⟩,⟨s,E,cF,eu⟩,F⟩;have dD:=aa E.blk;have cz:=aa ((F w.heap.size (aoP _) (aM y.o)).trans y.o);have iQ:=aa E;have I:=aa cF;have my:=aa eu;have re:=aa jR;have L:=aa (b4 z.o (fun q t=>F q (aoT z.o q t).1 (aoT z.o q t).2));clear E cF F eu jR;obtain⟨a2,bd,rfl,Ju,Jv,Jw⟩:=bp re.o;clear Ju Jv Jw))
 have Jx:=aa (alv (gC L.o (aoR _)) re.o);have M:=aa ((I.o.other f uo Jt.o).trans hv.o);have zW:=aa (b4 bR.o fun q t=>I.o.other q (aoT bR.o q t).2 (rE.o q t));have tI:=aa (fun jf (j:J w2 jf)=>alu (bj M.o j) nx (show l.length<2000000000000 by omega) (c5 zW.o j) ⟨_,c5 (gC L.o (aoR _)) j⟩);go_wp2_with (first
  |(go_at_call 111;refine Jx.o.mono ?_;rintro g w3 ⟨rfl,j⟩;have B:=aa j;clear j)
  |(go_at_call 112;refine(tI.o w3 B.o).mono ?_;rintro g w4 ⟨rfl,gp⟩;have jw:=aa gp;clear gp))
 go_ret
 exact⟨rfl,w3,_,_,s,⟨x,r,bC,told,cA,cC,N,sp,P,jU,iQ.o.af B.o⟩,I.o.after B.o,my.o,fun k hk=>(aoT L.o k hk).1,(B.o.block f (aM M.o)).trans (M.o.trans hv.o.symm),jw.o⟩
theorem alx{w M}(h:ki w f e M)(o:jD)(n:pV o)(eH:o.kind=3)(mZ:M<2000000000000):
  O 68 #[Z f,.agg #[A o.kind,A o.r,A o.c,A o.d,A o.i1,A o.i2,A o.made,.string o.key,A o.a,A o.b,.bool o.yes]] w fun i w'=>i=.returned (.bool true)/\vz w f e (M+1) w':=by
 obtain⟨x,r,C,told,cA,cC,N,D,P,jU,h⟩:=h;rw[eH];have aK:=aa ((aoQ w.heap.size w).alloc (aoP _) (.cells #[A 3,A o.r,A o.c,A o.d,A o.i1,A o.i2,A o.made,.string o.key,A o.a,A o.b,.bool o.yes] 87));have B:=aa (bL w (.cells #[A 3,A o.r,A o.c,A o.d,A o.i1,A o.i2,A o.made,.string o.key,A o.a,A o.b,.bool o.yes] 87));have Q:=aa (bj h.blk aK.o);have dj:=aa (fun W (ab:J w W)=>ak6 h ab o.c o.i1 o.i2 o.key n.key o.yes);have R:=aa h.lt;have S:=aa h.fr;have U:=aa (show ∀k,w.heap.size<=k->¬e k from fun k n hF=>by have :=h.lt k hF;omega);have cP:=h.lt _ h.fr;have X:=aa h.blk;clear h n;go_enter func68,ntmps68;go_wp2_with fail
 go_cut [7,8] (fun p q wc=>∃E j l m,p=Z E/\q=A m/\Gn w f e x r C told N D 95 #[Z r,A o.c,.agg #[A o.i1,A o.i2],.string o.key,.bool o.yes] (.cells #[A 3,A o.r,A o.c,A o.d,A o.i1,A o.i2,A o.made,.string o.key,A o.a,A o.b,.bool o.yes] 87) E j l m wc)
 case first =>
  go_region_held3 (fun W=>W.cell? (H f)=some (Z x)/\W.cell? (K f 1)=some (Z r)/\W.cell? (V w 0)=some (A 3)/\W.cell? (V w 2)=some (A o.c)/\W.cell? (V w 4)=some (A o.i1)/\W.cell? (V w 5)=some (A o.i2)/\W.cell? (V w 7)=some (.string o.key)/\W.cell? (V w 8)=some (A o.a)/\W.cell? (V w 9)=some (A o.b)/\W.cell? (V w 10)=some (.bool o.yes)) (first |exact ep s.o t.o|exact ep ((dI (by omega)).trans ((dI (by omega)).trans s.o)) ((dI (by omega)).trans ((dI (by omega)).trans t.o))|exact ep ((ec (by omega)).trans s.o) ((ec (by omega)).trans t.o)|exact ep Q.o B.o|exact ep ((ec (by simp;omega)).trans Q.o) ((ec (by simp)).trans B.o))
   (first |(go_at_call 38;refine(dj.o _ (by go_grown)).mono ?_;rintro i w1 ⟨j,l,m,rfl,v⟩;have fO:=aa v;have s:=aa (v.1.trans X.o);have t:=aa (show w1.heap[w.heap.size]?=some (.cells #[A 3,A o.r,A o.c,A o.d,A o.i1,A o.i2,A o.made,.string o.key,A o.a,A o.b,.bool o.yes] 87 (0,0)) from by(rw[v.2.1 w.heap.size (by first |(simp;done)|(simp;omega)) (U.o _ (aoP _))];first |exact B.o|exact(ec (by simp)).trans B.o));have hz1:=v.2.2.1;(try simp at hz1);(try(have u:=aa (show w1.heap[w.heap.size+1]?=some (.cells #[A 0,A 0] 36 (0,0)) from by(rw[v.2.1 (w.heap.size+1) (by simp) (U.o _ (by omega))];exact mY (by simp)));have z0:=(bh u.o).1;have z1:=(bh u.o).2;have BA:=cS u.o));clear v))
  all_goals(go_wp2_with fail;go_meet)
  all_goals first
   |exact⟨_,j,l,m,rfl,rfl,SE R.o S.o fO.o⟩
   |exact⟨_,j,l,m,rfl,rfl,SF R.o S.o fO.o⟩
 case rest=>
  obtain⟨E,j,l,m,rfl,rfl,y⟩:=hcut;have s:=aa (y.g.trans X.o);have t:=aa y.b;have e0:=aa y;have Jy:=aM y.a;have pZ:=aM y.b;clear y;go_wp2_with fail
  go_cut [9,10] (fun p q BO=>∃Y,p=Z Y/\q=A m/\Jr w f e x r C told N D E Y j l BO)
  case first =>
   go_region_held3 (fun W=>W.cell? (H f)=some (Z x)/\W.cell? (K f 1)=some (Z r)/\W.cell? (V w 0)=some (A 3)/\W.cell? (V w 2)=some (A o.c)/\W.cell? (V w 4)=some (A o.i1)/\W.cell? (V w 5)=some (A o.i2)/\W.cell? (V w 7)=some (.string o.key)/\W.cell? (V w 8)=some (A o.a)/\W.cell? (V w 9)=some (A o.b)/\W.cell? (V w 10)=some (.bool o.yes)) (first |exact ep F.o I.o|exact ep ((dI (by omega)).trans ((dI (by omega)).trans F.o)) ((dI (by omega)).trans ((dI (by omega)).trans I.o))|exact ep ((ec (by omega)).trans F.o) ((ec (by omega)).trans I.o)|exact ep s.o t.o|exact ep ((ec (by omega)).trans s.o) ((ec (by omega)).trans t.o))
    (first |(go_at_call 95;refine(e0.o.next _ (by go_grown)).mono ?_;rintro i w2 ⟨rfl,hex,tq,gw,fy⟩;have cG:=aa hex;have I:=aa gw;have F:=aa (show w2.heap[f]?=some (.cells #[Z x,Z r,C] 135 (0,0)) from by(obtain⟨aS,eF,fK,P',z,_⟩:=hex;exact z.blk));have x6:=aa tq;have vY:=aa fy;have hz2:=aM F.o;have mM:=aM I.o;(try(have u:=aa (show w2.heap[wc.heap.size]?=some (.cells #[A 0,A 0] 36 (0,0)) from by(rw[fy wc.heap.size (aoP _) (by simp)];exact mY (by simp)));have z0:=(bh u.o).1;have z1:=(bh u.o).2;have BA:=cS u.o));clear hex tq gw fy))
   all_goals(go_wp2_with fail;go_meet)
   all_goals first
    |exact⟨_,rfl,rfl,SG (by omega) Jy cG.o x6.o vY.o⟩
    |exact⟨_,rfl,rfl,SH cG.o x6.o⟩
  case rest=>
   obtain⟨Y,rfl,rfl,L⟩:=hcut;obtain⟨a0,b1⟩:=bh L.a;obtain⟨cr,bx⟩:=bh L.b;obtain⟨aS,eF,fK,P',z,n⟩:=L.pair;clear L e0 s t dj aK B Q X U R S;by_cases hm:m=0
   ·subst hm
    have fP:=aa (Sv z j l (by omega));have gM:=aa n;clear n z;go_wp2_with (first |(go_at_call 96;refine fP.o.mono ?_;rintro i w3 ⟨rfl,rY,Jz,nF,hp⟩;have hY:=aa nF;have ni:=aa (gM.o.trans hp);clear nF hp))
    go_ret
    exact⟨rfl,rY,⟨x,r,Jz,told++[(j,l)],eF,fK,N,D,P',by simp;omega,hY.o⟩,ni.o⟩
   ·have fP:=aa (fun W=>Su W f j l m hm)
    have gM:=aa n;have ed:=aa z;clear n z;go_wp2_with (first |(go_at_call 96;refine(fP.o _).mono ?_;rintro i w3 ⟨rfl,a8⟩;have hY:=aa (ed.o.af a8);have ni:=aa (gM.o.after a8);clear a8))
    go_ret
    exact⟨rfl,aS,⟨x,r,C,told,eF,fK,N,D,P',by omega,hY.o⟩,ni.o⟩
theorem aly{w M}(h:ki w f e M)(o:jD)(n:pV o)(eH:o.kind=5)(mZ:M<2000000000000):
  O 68 #[Z f,.agg #[A o.kind,A o.r,A o.c,A o.d,A o.i1,A o.i2,A o.made,.string o.key,A o.a,A o.b,.bool o.yes]] w fun i w'=>i=.returned (.bool true)/\vz w f e (M+1) w':=by
 obtain⟨x,r,C,told,cA,cC,N,D,P,jU,h⟩:=h;rw[eH];have aK:=aa ((aoQ w.heap.size w).alloc (aoP _) (.cells #[A 5,A o.r,A o.c,A o.d,A o.i1,A o.i2,A o.made,.string o.key,A o.a,A o.b,.bool o.yes] 87));have B:=aa (bL w (.cells #[A 5,A o.r,A o.c,A o.d,A o.i1,A o.i2,A o.made,.string o.key,A o.a,A o.b,.bool o.yes] 87));have Q:=aa (bj h.blk aK.o);have dj:=aa (fun W (ab:J w W)=>ak7 h ab o.c o.i1 o.i2 o.a o.b n.b);have R:=aa h.lt;have S:=aa h.fr;have U:=aa (show ∀k,w.heap.size<=k->¬e k from fun k n hF=>by have :=h.lt k hF;omega);have cP:=h.lt _ h.fr;have X:=aa h.blk;clear h n;go_enter func68,ntmps68;go_wp2_with fail
 go_cut [13,14] (fun p q wc=>∃E j l m,p=Z E/\q=A m/\Gn w f e x r C told N D 98 #[Z r,A o.c,.agg #[A o.i1,A o.i2],A o.a,A o.b] (.cells #[A 5,A o.r,A o.c,A o.d,A o.i1,A o.i2,A o.made,.string o.key,A o.a,A o.b,.bool o.yes] 87) E j l m wc)
 case first =>
  go_region_held3 (fun W=>W.cell? (H f)=some (Z x)/\W.cell? (K f 1)=some (Z r)/\W.cell? (V w 0)=some (A 5)/\W.cell? (V w 2)=some (A o.c)/\W.cell? (V w 4)=some (A o.i1)/\W.cell? (V w 5)=some (A o.i2)/\W.cell? (V w 7)=some (.string o.key)/\W.cell? (V w 8)=some (A o.a)/\W.cell? (V w 9)=some (A o.b)/\W.cell? (V w 10)=some (.bool o.yes)) (first |exact ep s.o t.o|exact ep ((dI (by omega)).trans ((dI (by omega)).trans s.o)) ((dI (by omega)).trans ((dI (by omega)).trans t.o))|exact ep ((ec (by omega)).trans s.o) ((ec (by omega)).trans t.o)|exact ep Q.o B.o|exact ep ((ec (by simp;omega)).trans Q.o) ((ec (by simp)).trans B.o))
   (first |(go_at_call 32;refine(dj.o _ (by go_grown)).mono ?_;rintro i w1 ⟨j,l,m,rfl,v⟩;have fO:=aa v;have s:=aa (v.1.trans X.o);have t:=aa (show w1.heap[w.heap.size]?=some (.cells #[A 5,A o.r,A o.c,A o.d,A o.i1,A o.i2,A o.made,.string o.key,A o.a,A o.b,.bool o.yes] 87 (0,0)) from by(rw[v.2.1 w.heap.size (by first |(simp;done)|(simp;omega)) (U.o _ (aoP _))];first |exact B.o|exact(ec (by simp)).trans B.o));have hz1:=v.2.2.1;(try simp at hz1);(try(have u:=aa (show w1.heap[w.heap.size+1]?=some (.cells #[A 0,A 0] 36 (0,0)) from by(rw[v.2.1 (w.heap.size+1) (by simp) (U.o _ (by omega))];exact mY (by simp)));have z0:=(bh u.o).1;have z1:=(bh u.o).2;have BA:=cS u.o));clear v))
  all_goals(go_wp2_with fail;go_meet)
  all_goals first
   |exact⟨_,j,l,m,rfl,rfl,SE R.o S.o fO.o⟩
   |exact⟨_,j,l,m,rfl,rfl,SF R.o S.o fO.o⟩
 case rest=>
  obtain⟨E,j,l,m,rfl,rfl,y⟩:=hcut;have s:=aa (y.g.trans X.o);have t:=aa y.b;have e0:=aa y;have Jy:=aM y.a;have pZ:=aM y.b;clear y;go_wp2_with fail
  go_cut [15,16] (fun p q BO=>∃Y,p=Z Y/\q=A m/\Jr w f e x r C told N D E Y j l BO)
  case first =>
   go_region_held3 (fun W=>W.cell? (H f)=some (Z x)/\W.cell? (K f 1)=some (Z r)/\W.cell? (V w 0)=some (A 5)/\W.cell? (V w 2)=some (A o.c)/\W.cell? (V w 4)=some (A o.i1)/\W.cell? (V w 5)=some (A o.i2)/\W.cell? (V w 7)=some (.string o.key)/\W.cell? (V w 8)=some (A o.a)/\W.cell? (V w 9)=some (A o.b)/\W.cell? (V w 10)=some (.bool o.yes)) (first |exact ep F.o I.o|exact ep ((dI (by omega)).trans ((dI (by omega)).trans F.o)) ((dI (by omega)).trans ((dI (by omega)).trans I.o))|exact ep ((ec (by omega)).trans F.o) ((ec (by omega)).trans I.o)|exact ep s.o t.o|exact ep ((ec (by omega)).trans s.o) ((ec (by omega)).trans t.o))
    (first |(go_at_call 98;refine(e0.o.next _ (by go_grown)).mono ?_;rintro i w2 ⟨rfl,hex,tq,gw,fy⟩;have cG:=aa hex;have I:=aa gw;have F:=aa (show w2.heap[f]?=some (.cells #[Z x,Z r,C] 135 (0,0)) from by(obtain⟨aS,eF,fK,P',z,_⟩:=hex;exact z.blk));have x6:=aa tq;have vY:=aa fy;have hz2:=aM F.o;have mM:=aM I.o;(try(have u:=aa (show w2.heap[wc.heap.size]?=some (.cells #[A 0,A 0] 36 (0,0)) from by(rw[fy wc.heap.size (aoP _) (by simp)];exact mY (by simp)));have z0:=(bh u.o).1;have z1:=(bh u.o).2;have BA:=cS u.o));clear hex tq gw fy))
   all_goals(go_wp2_with fail;go_meet)
   all_goals first
    |exact⟨_,rfl,rfl,SG (by omega) Jy cG.o x6.o vY.o⟩
    |exact⟨_,rfl,rfl,SH cG.o x6.o⟩
  case rest=>
   obtain⟨Y,rfl,rfl,L⟩:=hcut;obtain⟨a0,b1⟩:=bh L.a;obtain⟨cr,bx⟩:=bh L.b;obtain⟨aS,eF,fK,P',z,n⟩:=L.pair;clear L e0 s t dj aK B Q X U R S;by_cases hm:m=0
   ·subst hm
    have fP:=aa (Sv z j l (by omega));have gM:=aa n;clear n z;go_wp2_with (first |(go_at_call 96;refine fP.o.mono ?_;rintro i w3 ⟨rfl,rY,Jz,nF,hp⟩;have hY:=aa nF;have ni:=aa (gM.o.trans hp);clear nF hp))
    go_ret
    exact⟨rfl,rY,⟨x,r,Jz,told++[(j,l)],eF,fK,N,D,P',by simp;omega,hY.o⟩,ni.o⟩
   ·have fP:=aa (fun W=>Su W f j l m hm)
    have gM:=aa n;have ed:=aa z;clear n z;go_wp2_with (first |(go_at_call 96;refine(fP.o _).mono ?_;rintro i w3 ⟨rfl,a8⟩;have hY:=aa (ed.o.af a8);have ni:=aa (gM.o.after a8);clear a8))
    go_ret
    exact⟨rfl,aS,⟨x,r,C,told,eF,fK,N,D,P',by omega,hY.o⟩,ni.o⟩
theorem alz{w M}(h:ki w f e M)(o:jD)(eH:o.kind=6)(mZ:M<2000000000000):
  O 68 #[Z f,.agg #[A o.kind,A o.r,A o.c,A o.d,A o.i1,A o.i2,A o.made,.string o.key,A o.a,A o.b,.bool o.yes]] w fun i w'=>i=.returned (.bool true)/\vz w f e (M+1) w':=by
 obtain⟨x,r,C,told,cA,cC,N,D,P,jU,h⟩:=h;rw[eH];have aK:=aa ((aoQ w.heap.size w).alloc (aoP _) (.cells #[A 6,A o.r,A o.c,A o.d,A o.i1,A o.i2,A o.made,.string o.key,A o.a,A o.b,.bool o.yes] 87));have z:=aa (bL w (.cells #[A 6,A o.r,A o.c,A o.d,A o.i1,A o.i2,A o.made,.string o.key,A o.a,A o.b,.bool o.yes] 87));have Q:=aa (bj h.blk aK.o);have dj:=aa (fun W (ab:J w W)=>ak8 h ab o.c o.i1 o.i2 o.a o.yes);have R:=aa h.lt;have S:=aa h.fr;have U:=aa (show ∀k,w.heap.size<=k->¬e k from fun k B hF=>by have :=h.lt k hF;omega);have cP:=h.lt _ h.fr;have X:=aa h.blk;clear h;go_enter func68,ntmps68;go_wp2_with fail
 go_cut [17,18] (fun p q wc=>∃E j l m,p=Z E/\q=A m/\Gn w f e x r C told N D 100 #[Z r,A o.c,.agg #[A o.i1,A o.i2],A o.a,.bool o.yes] (.cells #[A 6,A o.r,A o.c,A o.d,A o.i1,A o.i2,A o.made,.string o.key,A o.a,A o.b,.bool o.yes] 87) E j l m wc)
 case first =>
  go_region_held3 (fun W=>W.cell? (H f)=some (Z x)/\W.cell? (K f 1)=some (Z r)/\W.cell? (V w 0)=some (A 6)/\W.cell? (V w 2)=some (A o.c)/\W.cell? (V w 4)=some (A o.i1)/\W.cell? (V w 5)=some (A o.i2)/\W.cell? (V w 7)=some (.string o.key)/\W.cell? (V w 8)=some (A o.a)/\W.cell? (V w 9)=some (A o.b)/\W.cell? (V w 10)=some (.bool o.yes)) (first |exact ep n.o s.o|exact ep ((dI (by omega)).trans ((dI (by omega)).trans n.o)) ((dI (by omega)).trans ((dI (by omega)).trans s.o))|exact ep ((ec (by omega)).trans n.o) ((ec (by omega)).trans s.o)|exact ep Q.o z.o|exact ep ((ec (by simp;omega)).trans Q.o) ((ec (by simp)).trans z.o))
   (first |(go_at_call 99;refine(dj.o _ (by go_grown)).mono ?_;rintro i w1 ⟨j,l,m,rfl,u⟩;have fO:=aa u;have n:=aa (u.1.trans X.o);have s:=aa (show w1.heap[w.heap.size]?=some (.cells #[A 6,A o.r,A o.c,A o.d,A o.i1,A o.i2,A o.made,.string o.key,A o.a,A o.b,.bool o.yes] 87 (0,0)) from by(rw[u.2.1 w.heap.size (by first |(simp;done)|(simp;omega)) (U.o _ (aoP _))];first |exact z.o|exact(ec (by simp)).trans z.o));have hz1:=u.2.2.1;(try simp at hz1);(try(have t:=aa (show w1.heap[w.heap.size+1]?=some (.cells #[A 0,A 0] 36 (0,0)) from by(rw[u.2.1 (w.heap.size+1) (by simp) (U.o _ (by omega))];exact mY (by simp)));have z0:=(bh t.o).1;have z1:=(bh t.o).2;have BA:=cS t.o));clear u))
  all_goals(go_wp2_with fail;go_meet)
  all_goals first
   |exact⟨_,j,l,m,rfl,rfl,SE R.o S.o fO.o⟩
   |exact⟨_,j,l,m,rfl,rfl,SF R.o S.o fO.o⟩
 case rest=>
  obtain⟨E,j,l,m,rfl,rfl,v⟩:=hcut;have n:=aa (v.g.trans X.o);have s:=aa v.b;have e0:=aa v;have Jy:=aM v.a;have pZ:=aM v.b;clear v;go_wp2_with fail
  go_cut [19,20] (fun p q BO=>∃Y,p=Z Y/\q=A m/\Jr w f e x r C told N D E Y j l BO)
  case first =>
   go_region_held3 (fun W=>W.cell? (H f)=some (Z x)/\W.cell? (K f 1)=some (Z r)/\W.cell? (V w 0)=some (A 6)/\W.cell? (V w 2)=some (A o.c)/\W.cell? (V w 4)=some (A o.i1)/\W.cell? (V w 5)=some (A o.i2)/\W.cell? (V w 7)=some (.string o.key)/\W.cell? (V w 8)=some (A o.a)/\W.cell? (V w 9)=some (A o.b)/\W.cell? (V w 10)=some (.bool o.yes)) (first |exact ep F.o I.o|exact ep ((dI (by omega)).trans ((dI (by omega)).trans F.o)) ((dI (by omega)).trans ((dI (by omega)).trans I.o))|exact ep ((ec (by omega)).trans F.o) ((ec (by omega)).trans I.o)|exact ep n.o s.o|exact ep ((ec (by omega)).trans n.o) ((ec (by omega)).trans s.o))
    (first |(go_at_call 100;refine(e0.o.next _ (by go_grown)).mono ?_;rintro i w2 ⟨rfl,hex,tq,gw,fy⟩;have cG:=aa hex;have I:=aa gw;have F:=aa (show w2.heap[f]?=some (.cells #[Z x,Z r,C] 135 (0,0)) from by(obtain⟨aS,eF,fK,P',y,_⟩:=hex;exact y.blk));have x6:=aa tq;have vY:=aa fy;have hz2:=aM F.o;have mM:=aM I.o;(try(have t:=aa (show w2.heap[wc.heap.size]?=some (.cells #[A 0,A 0] 36 (0,0)) from by(rw[fy wc.heap.size (aoP _) (by simp)];exact mY (by simp)));have z0:=(bh t.o).1;have z1:=(bh t.o).2;have BA:=cS t.o));clear hex tq gw fy))
   all_goals(go_wp2_with fail;go_meet)
   all_goals first
    |exact⟨_,rfl,rfl,SG (by omega) Jy cG.o x6.o vY.o⟩
    |exact⟨_,rfl,rfl,SH cG.o x6.o⟩
  case rest=>
   obtain⟨Y,rfl,rfl,L⟩:=hcut;obtain⟨a0,b1⟩:=bh L.a;obtain⟨cr,bx⟩:=bh L.b;obtain⟨aS,eF,fK,P',y,B⟩:=L.pair;clear L e0 n s dj aK z Q X U R S;by_cases hm:m=0
   ·subst hm
    have fP:=aa (Sv y j l (by omega));have gM:=aa B;clear B y;go_wp2_with (first |(go_at_call 96;refine fP.o.mono ?_;rintro i w3 ⟨rfl,rY,Jz,nF,hp⟩;have hY:=aa nF;have ni:=aa (gM.o.trans hp);clear nF hp))
    go_ret
    exact⟨rfl,rY,⟨x,r,Jz,told++[(j,l)],eF,fK,N,D,P',by simp;omega,hY.o⟩,ni.o⟩
   ·have fP:=aa (fun W=>Su W f j l m hm)
    have gM:=aa B;have ed:=aa y;clear B y;go_wp2_with (first |(go_at_call 96;refine(fP.o _).mono ?_;rintro i w3 ⟨rfl,a8⟩;have hY:=aa (ed.o.af a8);have ni:=aa (gM.o.after a8);clear a8))
    go_ret
    exact⟨rfl,aS,⟨x,r,C,told,eF,fK,N,D,P',by omega,hY.o⟩,ni.o⟩
end
section
open Go.RowKit Tryz
variable {a v:Nat->Prop}{b j m q:List Nat}{d f w:Nat}{e l:World}{h:Nat->Nat->Prop}{i k n r:Value}{s:Nat->Array Value}{u:TypeId}
theorem ki.gB{w b F c}{a:World}(h:ki w b F c)(d:w.heap.size<=a.heap.size)(e:∀k,F k->a.heap[k]?=w.heap[k]?):ki a b F c:=by
 obtain⟨x,r,f,told,g,i,N,sp,P,j,h⟩:=h;exact⟨x,r,f,told,g,i,N,sp,P,j,h.gB d e⟩
theorem ki.more(h:ki e d a f)(b:f<=w):ki e d a w:=by
 obtain⟨x,r,c,told,g,i,N,j,P,k,h⟩:=h;exact⟨x,r,c,told,g,i,N,j,P,aoS k b,h⟩
theorem ki.lt{w a F b}(h:ki w a F b):∀k,F k->k<w.heap.size:=by
 obtain⟨x,r,c,told,d,e,N,sp,P,f,h⟩:=h;exact h.lt
def tx (e b:TypeId) (k:Nat) (c:Nat->Array Value) (a:List Nat) (R:Nat->Prop) (w:World):Prop:=∀i (d:i<a.length),∃n U,qB e b k (c i) n a[i] U w/\R a[i]/\∀j,j<4->∀g,(U j).ownBlock=some g->R g
theorem tx.mD{c}(h:tx u c d s b a e):M0 u c d s b e:=fun i f=>by
 obtain⟨n,U,g,_⟩:=h i f;exact⟨n,U,g⟩
theorem tx.af{e a k c d R w}{w':World}(h:tx e a k c d R w)(f:∀q l t,R q->w.heap[q]?=some (.cells l t (0,0))->t=e\/t=a->w'.heap[q]?=w.heap[q]?):tx e a k c d R w':=fun i u=>by
 obtain⟨n,U,b,m,o⟩:=h i u;refine⟨n,U,b.af (f _ _ _ m b.row (.inr rfl)) fun j p g r=> ?_,m,o⟩;obtain⟨l,v⟩:=(b.s j p).type r;exact f _ _ _ (o j p g r) v (.inl rfl)
theorem tx.mono{e k R w}(h:tx e u k s b R w)(c:∀q,R q->a q):tx e u k s b a w:=fun i d=>by
 obtain⟨n,U,f,l,m⟩:=h i d;exact⟨n,U,f,c _ l,fun j o g p=>c _ (m j o g p)⟩
theorem tx.add{e w c U}(h:tx e u f s b a w)(l:qB e u f (s b.length) d c U w)(m:a c)(n:∀j,j<4->∀g,(U j).ownBlock=some g->a g):tx e u f s (b++[c]) a w:=fun i o=>by
 by_cases k:i<b.length
 ·obtain⟨d,U,h⟩:=h i k
  refine⟨d,U,?_⟩;rw[aqn k];exact h
 ·have :i=b.length:=by simp at o;omega
  subst this;refine⟨d,U,?_⟩;simp;exact⟨l,m,n⟩
structure jF (base gy:Nat) (cW bX cV bQ:Value) (bP aX lb lc:List Nat) (dt:Nat->Nat->Prop) (R:Nat->Prop) (bI:Nat) (w:World):Prop where
 y:w.heap[gy]?=some (.cells #[cW,bX,cV,bQ] 84 (0,0))
 bE:w.ownsRow 0 132 1 cW bP.length (bP.flatMap iD)
 a:w.ownsRow 0 138 1 bX aX.length (aX.flatMap kZ)
 b:w.ownsRow 0 140 1 cV lb.length (lb.flatMap kZ)
 c:w.ownsRow 0 141 1 bQ lc.length (lc.flatMap kZ)
 fs:∀i (hi:i<bP.length),ki w bP[i] (dt i) bI
 jy:∀i j k,i<bP.length->j<bP.length->i≠j->dt i k->¬dt j k
 pM:∀i k,i<bP.length->dt i k->base<=k
 cd:∀i k,i<bP.length->dt i k->¬R k
 aY:∀k,R k->base<=k/\k<w.heap.size
 l8:R gy
 se:∀k,cW.ownBlock=some k->R k
 cx:∀k,bX.ownBlock=some k->R k
 sf:∀k,cV.ownBlock=some k->R k
 rc:∀k,bQ.ownBlock=some k->R k
 wD:tx 36 65 2 aaC aX R w
 B4:tx 57 53 3 aaE lb R w
 gN:tx 3 24 1 aaD lc R w
 vB:bP.length<=bI
 ox:aX.length<=bI
 qt:lb.length<=bI
 oy:lc.length<=bI
 bs:base<=w.heap.size
theorem jF.frame{base B}(o:jF base d i k n r j m q B h v f e)(u:∀p,v p->l.heap[p]?=e.heap[p]?)(E:∀s p,s<j.length->h s p->l.heap[p]?=e.heap[p]?)(z:e.heap.size<=l.heap.size):jF base d i k n r j m q B h v f l:=
 ⟨(u d o.l8).trans o.y,b4 o.bE fun g w=>u g (o.se g w),b4 o.a fun g w=>u g (o.cx g w),b4 o.b fun g w=>u g (o.sf g w),b4 o.c fun g w=>u g (o.rc g w),
  fun s C=>(o.fs s C).gB z fun p hF=>E s p C hF,o.jy,o.pM,o.cd,fun p D=>⟨(o.aY p D).1,aoV (o.aY p D).2 z⟩,o.l8,o.se,o.cx,o.sf,o.rc,
  o.wD.af fun t _ _ x _ _=>u t x,o.B4.af fun t _ _ x _ _=>u t x,o.gN.af fun t _ _ x _ _=>u t x,o.vB,o.ox,o.qt,o.oy,aoS o.bs z⟩
theorem jF.below{base p}(g:jF base d k n r p b j m q h a f e)(o:J e l):jF base d k n r p b j m q h a f l:=
 g.frame (fun c s=>o.block c (g.aY c s).2) (fun i c t hF=>o.block c ((g.fs i t).lt c hF)) o.size
theorem jF.more{base gy b c d e f g j k l R m w}(h:jF base gy b c d e f g j k l R m w){n:Nat}(a:m<=n):jF base gy b c d e f g j k l R n w:=
 {h with fs:=fun i o=>(h.fs i o).more a,vB:=aoS h.vB a,ox:=aoS h.ox a,qt:=aoS h.qt a,oy:=aoS h.oy a}
theorem jF.room{base gy U W R}(o:jF base gy i k n r m q U W h v f l)(X:d<m.length)(Y:ki e m[d] R f)(B:c0 (h d) R l e):jF base gy i k n r m q U W (fun j=>if j=d then R else h j) v f e:=by
 have u:∀p,v p->e.heap[p]?=l.heap[p]?:=fun p u=>B.other p (o.aY p u).2 fun hF=>o.cd d p X hF u
 have hq:∀j p,j<m.length->j≠d->h j p->e.heap[p]?=l.heap[p]?:=fun j p w x hF=>B.other p ((o.fs j w).lt p hF) (o.jy j d p w X x hF)
 have S:=B.size;refine⟨(u gy o.l8).trans o.y,b4 o.bE fun g C=>u g (o.se g C),b4 o.a fun g C=>u g (o.cx g C),b4 o.b fun g C=>u g (o.sf g C),b4 o.c fun g C=>u g (o.rc g C),
  fun j w=> ?_,fun E D p I L M=> ?_,fun j p w=> ?_,fun j p w=> ?_,fun p u=>⟨(o.aY p u).1,aoV (o.aY p u).2 S⟩,o.l8,o.se,o.cx,o.sf,o.rc,
  o.wD.af fun s _ _ F _ _=>u s F,o.B4.af fun s _ _ F _ _=>u s F,o.gN.af fun s _ _ F _ _=>u s F,o.vB,o.ox,o.qt,o.oy,aoS o.bs S⟩
 ·by_cases x:j=d
  ·subst x;simp only[if_true];exact Y
  ·simp only[if_neg x];exact(o.fs j w).gB S fun p hF=>hq j p w x hF
 ·by_cases N:E=d
  ·have P:D≠d:=fun t=>M (N.trans t.symm)
   subst N;simp only[if_true,if_neg P];intro hF Q;rcases B.sub p hF with z|z
   ·exact o.jy E D p I L M z Q
   ·have :=(o.fs D L).lt p Q;omega
  ·by_cases P:D=d
   ·subst P
    simp only[if_true,if_neg N];intro hF Q;rcases B.sub p Q with z|z
    ·exact o.jy E D p I L M hF z
    ·have :=(o.fs E I).lt p hF;omega
   ·simp only[if_neg N,if_neg P]
    exact o.jy E D p I L M
 ·by_cases x:j=d
  ·subst x
   simp only[if_true];intro hF;rcases B.sub p hF with z|z
   ·exact o.pM j p w z
   ·have :=o.bs;omega
  ·simp only[if_neg x];exact o.pM j p w
 ·by_cases x:j=d
  ·subst x
   simp only[if_true];intro hF u;rcases B.sub p hF with z|z
   ·exact o.cd j p w z u
   ·have :=(o.aY p u).2;omega
  ·simp only[if_neg x];exact o.cd j p w
theorem jF.under{base gy}(c:jF base gy i k n r b j m q h a f e)(p:d<b.length)(o:c0 (h d) v e l):Below base e l:=
 ⟨o.os,o.tape,o.output,o.size,fun g s=>o.other g (aoV s c.bs) fun hF=>by have :=c.pM d g p hF;omega⟩
end
end Go.Proofs.YtnkpogjiiohapaaGreatDoor
