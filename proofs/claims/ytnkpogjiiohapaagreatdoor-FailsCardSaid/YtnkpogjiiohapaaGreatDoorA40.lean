/- Our own text. -/
import Derived.Deep.DeepCutAuto
import Derived.Test.YtnkpogjiiohapaaGreatDoorA39
import Derived.Test.YtnkpogjiiohapaaGreatDoorA38
set_option linter.unusedSimpArgs false
set_option linter.unusedVariables false
set_option maxRecDepth 1000000
set_option maxHeartbeats 8000000
namespace Go.Proofs.YtnkpogjiiohapaaGreatDoor
section
open Go.RowKit Tryz
attribute [local go_sem ↓] Go.wp_at_zero Go.wp_at_succ
variable {a d:Nat}{b:Nat->Prop}{c:World}
theorem amt{w f F M}(h:kI w f F M)(o:jX)(l:p8 o)(fr:o.kind=3)(ni:M<2000000000000):
  O 68 #[Z f,.agg #[A o.kind,A o.r,A o.c,A o.d,A o.i1,A o.i2,A o.made,.string o.key,A o.a,A o.b,.bool o.yes]] w fun e w'=>e=.returned (.bool true)/\xC w f F (M+1) w':=by
 obtain⟨x,r,B,told,cu,cw,N,C,P,kz,h⟩:=h;rw[fr];have aK:=aa ((apY w.heap.size w).alloc (apX _) (.cells #[A 3,A o.r,A o.c,A o.d,A o.i1,A o.i2,A o.made,.string o.key,A o.a,A o.b,.bool o.yes] 87));have z:=aa (bI w (.cells #[A 3,A o.r,A o.c,A o.d,A o.i1,A o.i2,A o.made,.string o.key,A o.a,A o.b,.bool o.yes] 87));have Q:=aa (bj h.blk aK.o);have dd:=aa (fun W (ab:J w W)=>al3 h ab o.c o.i1 o.i2 o.key l.key o.yes);have R:=aa h.lt;have S:=aa h.fA;have U:=aa (show ∀k,w.heap.size<=k->¬F k from fun k l hF=>by have :=h.lt k hF;omega);have c9:=h.lt _ h.fA;have X:=aa h.blk;clear h l;go_enter func68,ntmps68;go_wp2_with fail
 go_cut [7,8] (fun p q wc=>∃D i j m,p=Z D/\q=A m/\G4 w f F x r B told N C 95 #[Z r,A o.c,.agg #[A o.i1,A o.i2],.string o.key,.bool o.yes] (.cells #[A 3,A o.r,A o.c,A o.d,A o.i1,A o.i2,A o.made,.string o.key,A o.a,A o.b,.bool o.yes] 87) D i j m wc)
 case first =>
  go_region_held3 (fun W=>W.cell? (H f)=some (Z x)/\W.cell? (K f 1)=some (Z r)/\W.cell? (V w 0)=some (A 3)/\W.cell? (V w 2)=some (A o.c)/\W.cell? (V w 4)=some (A o.i1)/\W.cell? (V w 5)=some (A o.i2)/\W.cell? (V w 7)=some (.string o.key)/\W.cell? (V w 8)=some (A o.a)/\W.cell? (V w 9)=some (A o.b)/\W.cell? (V w 10)=some (.bool o.yes)) (first |exact ey n.o s.o|exact ey ((dy (by omega)).trans ((dy (by omega)).trans n.o)) ((dy (by omega)).trans ((dy (by omega)).trans s.o))|exact ey ((ed (by omega)).trans n.o) ((ed (by omega)).trans s.o)|exact ey Q.o z.o|exact ey ((ed (by simp;omega)).trans Q.o) ((ed (by simp)).trans z.o))
   (first |(go_at_call 38;refine(dd.o _ (by go_grown)).mono ?_;rintro e w1 ⟨i,j,m,rfl,u⟩;have gL:=aa u;have n:=aa (u.1.trans X.o);have s:=aa (show w1.heap[w.heap.size]?=some (.cells #[A 3,A o.r,A o.c,A o.d,A o.i1,A o.i2,A o.made,.string o.key,A o.a,A o.b,.bool o.yes] 87 (0,0)) from by(rw[u.2.1 w.heap.size (by first |(simp;done)|(simp;omega)) (U.o _ (apX _))];first |exact z.o|exact(ed (by simp)).trans z.o));have hz1:=u.2.2.1;(try simp at hz1);(try(have t:=aa (show w1.heap[w.heap.size+1]?=some (.cells #[A 0,A 0] 36 (0,0)) from by(rw[u.2.1 (w.heap.size+1) (by simp) (U.o _ (by omega))];exact nh (by simp)));have z0:=(bl t.o).1;have z1:=(bl t.o).2;have B9:=cG t.o));clear u))
  all_goals(go_wp2_with fail;go_meet)
  all_goals first
   |exact⟨_,i,j,m,rfl,rfl,Tp R.o S.o gL.o⟩
   |exact⟨_,i,j,m,rfl,rfl,Tq R.o S.o gL.o⟩
 case rest=>
  obtain⟨D,i,j,m,rfl,rfl,v⟩:=hcut;have n:=aa (v.g.trans X.o);have s:=aa v.b;have eL:=aa v;have Kk:=aN v.a;have qc:=aN v.b;clear v;go_wp2_with fail
  go_cut [9,10] (fun p q Cw=>∃Y,p=Z Y/\q=A m/\Kd w f F x r B told N C D Y i j Cw)
  case first =>
   go_region_held3 (fun W=>W.cell? (H f)=some (Z x)/\W.cell? (K f 1)=some (Z r)/\W.cell? (V w 0)=some (A 3)/\W.cell? (V w 2)=some (A o.c)/\W.cell? (V w 4)=some (A o.i1)/\W.cell? (V w 5)=some (A o.i2)/\W.cell? (V w 7)=some (.string o.key)/\W.cell? (V w 8)=some (A o.a)/\W.cell? (V w 9)=some (A o.b)/\W.cell? (V w 10)=some (.bool o.yes)) (first |exact ey E.o I.o|exact ey ((dy (by omega)).trans ((dy (by omega)).trans E.o)) ((dy (by omega)).trans ((dy (by omega)).trans I.o))|exact ey ((ed (by omega)).trans E.o) ((ed (by omega)).trans I.o)|exact ey n.o s.o|exact ey ((ed (by omega)).trans n.o) ((ed (by omega)).trans s.o))
    (first |(go_at_call 95;refine(eL.o.next _ (by go_grown)).mono ?_;rintro e w2 ⟨rfl,hex,tB,gF,gv⟩;have cT:=aa hex;have I:=aa gF;have E:=aa (show w2.heap[f]?=some (.cells #[Z x,Z r,B] 135 (0,0)) from by(obtain⟨aR,e6,gh,P',y,_⟩:=hex;exact y.blk));have yx:=aa tB;have wQ:=aa gv;have hz2:=aN E.o;have mR:=aN I.o;(try(have t:=aa (show w2.heap[wc.heap.size]?=some (.cells #[A 0,A 0] 36 (0,0)) from by(rw[gv wc.heap.size (apX _) (by simp)];exact nh (by simp)));have z0:=(bl t.o).1;have z1:=(bl t.o).2;have B9:=cG t.o));clear hex tB gF gv))
   all_goals(go_wp2_with fail;go_meet)
   all_goals first
    |exact⟨_,rfl,rfl,Tr (by omega) Kk cT.o yx.o wQ.o⟩
    |exact⟨_,rfl,rfl,Ts cT.o yx.o⟩
  case rest=>
   obtain⟨Y,rfl,rfl,L⟩:=hcut;obtain⟨a0,b2⟩:=bl L.a;obtain⟨cy,bx⟩:=bl L.b;obtain⟨aR,e6,gh,P',y,l⟩:=L.pair;clear L eL n s dd aK z Q X U R S;by_cases hm:m=0
   ·subst hm;have fy:=aa (Tg y i j (by omega));have hs:=aa l;clear l y;go_wp2_with (first |(go_at_call 96;refine fy.o.mono ?_;rintro e w3 ⟨rfl,sa,Kl,oj,hE⟩;have hV:=aa oj;have ns:=aa (hs.o.trans hE);clear oj hE))
    go_ret
    exact⟨rfl,sa,⟨x,r,Kl,told++[(i,j)],e6,gh,N,C,P',by simp;omega,hV.o⟩,ns.o⟩
   have fy:=aa (fun W=>Tf W f i j m hm);have hs:=aa l;have et:=aa y;clear l y;go_wp2_with (first |(go_at_call 96;refine(fy.o _).mono ?_;rintro e w3 ⟨rfl,bb⟩;have hV:=aa (et.o.ae bb);have ns:=aa (hs.o.after bb);clear bb))
   go_ret
   exact⟨rfl,aR,⟨x,r,B,told,e6,gh,N,C,P',by omega,hV.o⟩,ns.o⟩
theorem amu{w f F M}(h:kI w f F M)(o:jX)(l:p8 o)(fr:o.kind=5)(ni:M<2000000000000):
  O 68 #[Z f,.agg #[A o.kind,A o.r,A o.c,A o.d,A o.i1,A o.i2,A o.made,.string o.key,A o.a,A o.b,.bool o.yes]] w fun e w'=>e=.returned (.bool true)/\xC w f F (M+1) w':=by
 obtain⟨x,r,B,told,cu,cw,N,C,P,kz,h⟩:=h;rw[fr];have aK:=aa ((apY w.heap.size w).alloc (apX _) (.cells #[A 5,A o.r,A o.c,A o.d,A o.i1,A o.i2,A o.made,.string o.key,A o.a,A o.b,.bool o.yes] 87));have z:=aa (bI w (.cells #[A 5,A o.r,A o.c,A o.d,A o.i1,A o.i2,A o.made,.string o.key,A o.a,A o.b,.bool o.yes] 87));have Q:=aa (bj h.blk aK.o);have dd:=aa (fun W (ab:J w W)=>al4 h ab o.c o.i1 o.i2 o.a o.b l.b);have R:=aa h.lt;have S:=aa h.fA;have U:=aa (show ∀k,w.heap.size<=k->¬F k from fun k l hF=>by have :=h.lt k hF;omega);have c9:=h.lt _ h.fA;have X:=aa h.blk;clear h l;go_enter func68,ntmps68;go_wp2_with fail
 go_cut [13,14] (fun p q wc=>∃D i j m,p=Z D/\q=A m/\G4 w f F x r B told N C 98 #[Z r,A o.c,.agg #[A o.i1,A o.i2],A o.a,A o.b] (.cells #[A 5,A o.r,A o.c,A o.d,A o.i1,A o.i2,A o.made,.string o.key,A o.a,A o.b,.bool o.yes] 87) D i j m wc)
 case first =>
  go_region_held3 (fun W=>W.cell? (H f)=some (Z x)/\W.cell? (K f 1)=some (Z r)/\W.cell? (V w 0)=some (A 5)/\W.cell? (V w 2)=some (A o.c)/\W.cell? (V w 4)=some (A o.i1)/\W.cell? (V w 5)=some (A o.i2)/\W.cell? (V w 7)=some (.string o.key)/\W.cell? (V w 8)=some (A o.a)/\W.cell? (V w 9)=some (A o.b)/\W.cell? (V w 10)=some (.bool o.yes)) (first |exact ey n.o s.o|exact ey ((dy (by omega)).trans ((dy (by omega)).trans n.o)) ((dy (by omega)).trans ((dy (by omega)).trans s.o))|exact ey ((ed (by omega)).trans n.o) ((ed (by omega)).trans s.o)|exact ey Q.o z.o|exact ey ((ed (by simp;omega)).trans Q.o) ((ed (by simp)).trans z.o))
   (first |(go_at_call 32;refine(dd.o _ (by go_grown)).mono ?_;rintro e w1 ⟨i,j,m,rfl,u⟩;have gL:=aa u;have n:=aa (u.1.trans X.o);have s:=aa (show w1.heap[w.heap.size]?=some (.cells #[A 5,A o.r,A o.c,A o.d,A o.i1,A o.i2,A o.made,.string o.key,A o.a,A o.b,.bool o.yes] 87 (0,0)) from by(rw[u.2.1 w.heap.size (by first |(simp;done)|(simp;omega)) (U.o _ (apX _))];first |exact z.o|exact(ed (by simp)).trans z.o));have hz1:=u.2.2.1;(try simp at hz1);(try(have t:=aa (show w1.heap[w.heap.size+1]?=some (.cells #[A 0,A 0] 36 (0,0)) from by(rw[u.2.1 (w.heap.size+1) (by simp) (U.o _ (by omega))];exact nh (by simp)));have z0:=(bl t.o).1;have z1:=(bl t.o).2;have B9:=cG t.o));clear u))
  all_goals(go_wp2_with fail;go_meet)
  all_goals first
   |exact⟨_,i,j,m,rfl,rfl,Tp R.o S.o gL.o⟩
   |exact⟨_,i,j,m,rfl,rfl,Tq R.o S.o gL.o⟩
 case rest=>
  obtain⟨D,i,j,m,rfl,rfl,v⟩:=hcut;have n:=aa (v.g.trans X.o);have s:=aa v.b;have eL:=aa v;have Kk:=aN v.a;have qc:=aN v.b;clear v;go_wp2_with fail
  go_cut [15,16] (fun p q Cw=>∃Y,p=Z Y/\q=A m/\Kd w f F x r B told N C D Y i j Cw)
  case first =>
   go_region_held3 (fun W=>W.cell? (H f)=some (Z x)/\W.cell? (K f 1)=some (Z r)/\W.cell? (V w 0)=some (A 5)/\W.cell? (V w 2)=some (A o.c)/\W.cell? (V w 4)=some (A o.i1)/\W.cell? (V w 5)=some (A o.i2)/\W.cell? (V w 7)=some (.string o.key)/\W.cell? (V w 8)=some (A o.a)/\W.cell? (V w 9)=some (A o.b)/\W.cell? (V w 10)=some (.bool o.yes)) (first |exact ey E.o I.o|exact ey ((dy (by omega)).trans ((dy (by omega)).trans E.o)) ((dy (by omega)).trans ((dy (by omega)).trans I.o))|exact ey ((ed (by omega)).trans E.o) ((ed (by omega)).trans I.o)|exact ey n.o s.o|exact ey ((ed (by omega)).trans n.o) ((ed (by omega)).trans s.o))
    (first |(go_at_call 98;refine(eL.o.next _ (by go_grown)).mono ?_;rintro e w2 ⟨rfl,hex,tB,gF,gv⟩;have cT:=aa hex;have I:=aa gF;have E:=aa (show w2.heap[f]?=some (.cells #[Z x,Z r,B] 135 (0,0)) from by(obtain⟨aR,e6,gh,P',y,_⟩:=hex;exact y.blk));have yx:=aa tB;have wQ:=aa gv;have hz2:=aN E.o;have mR:=aN I.o;(try(have t:=aa (show w2.heap[wc.heap.size]?=some (.cells #[A 0,A 0] 36 (0,0)) from by(rw[gv wc.heap.size (apX _) (by simp)];exact nh (by simp)));have z0:=(bl t.o).1;have z1:=(bl t.o).2;have B9:=cG t.o));clear hex tB gF gv))
   all_goals(go_wp2_with fail;go_meet)
   all_goals first
    |exact⟨_,rfl,rfl,Tr (by omega) Kk cT.o yx.o wQ.o⟩
    |exact⟨_,rfl,rfl,Ts cT.o yx.o⟩
  case rest=>
   obtain⟨Y,rfl,rfl,L⟩:=hcut;obtain⟨a0,b2⟩:=bl L.a;obtain⟨cy,bx⟩:=bl L.b;obtain⟨aR,e6,gh,P',y,l⟩:=L.pair;clear L eL n s dd aK z Q X U R S;by_cases hm:m=0
   ·subst hm;have fy:=aa (Tg y i j (by omega));have hs:=aa l;clear l y;go_wp2_with (first |(go_at_call 96;refine fy.o.mono ?_;rintro e w3 ⟨rfl,sa,Kl,oj,hE⟩;have hV:=aa oj;have ns:=aa (hs.o.trans hE);clear oj hE))
    go_ret
    exact⟨rfl,sa,⟨x,r,Kl,told++[(i,j)],e6,gh,N,C,P',by simp;omega,hV.o⟩,ns.o⟩
   have fy:=aa (fun W=>Tf W f i j m hm);have hs:=aa l;have et:=aa y;clear l y;go_wp2_with (first |(go_at_call 96;refine(fy.o _).mono ?_;rintro e w3 ⟨rfl,bb⟩;have hV:=aa (et.o.ae bb);have ns:=aa (hs.o.after bb);clear bb))
   go_ret
   exact⟨rfl,aR,⟨x,r,B,told,e6,gh,N,C,P',by omega,hV.o⟩,ns.o⟩
theorem amv{w f F M}(h:kI w f F M)(o:jX)(fr:o.kind=6)(ni:M<2000000000000):
  O 68 #[Z f,.agg #[A o.kind,A o.r,A o.c,A o.d,A o.i1,A o.i2,A o.made,.string o.key,A o.a,A o.b,.bool o.yes]] w fun e w'=>e=.returned (.bool true)/\xC w f F (M+1) w':=by
 obtain⟨x,r,B,told,cu,cw,N,C,P,kz,h⟩:=h;rw[fr];have aK:=aa ((apY w.heap.size w).alloc (apX _) (.cells #[A 6,A o.r,A o.c,A o.d,A o.i1,A o.i2,A o.made,.string o.key,A o.a,A o.b,.bool o.yes] 87));have y:=aa (bI w (.cells #[A 6,A o.r,A o.c,A o.d,A o.i1,A o.i2,A o.made,.string o.key,A o.a,A o.b,.bool o.yes] 87));have Q:=aa (bj h.blk aK.o);have dd:=aa (fun W (ab:J w W)=>al5 h ab o.c o.i1 o.i2 o.a o.yes);have R:=aa h.lt;have S:=aa h.fA;have U:=aa (show ∀k,w.heap.size<=k->¬F k from fun k z hF=>by have :=h.lt k hF;omega);have c9:=h.lt _ h.fA;have X:=aa h.blk;clear h;go_enter func68,ntmps68;go_wp2_with fail
 go_cut [17,18] (fun p q wc=>∃D i j m,p=Z D/\q=A m/\G4 w f F x r B told N C 100 #[Z r,A o.c,.agg #[A o.i1,A o.i2],A o.a,.bool o.yes] (.cells #[A 6,A o.r,A o.c,A o.d,A o.i1,A o.i2,A o.made,.string o.key,A o.a,A o.b,.bool o.yes] 87) D i j m wc)
 case first =>
  go_region_held3 (fun W=>W.cell? (H f)=some (Z x)/\W.cell? (K f 1)=some (Z r)/\W.cell? (V w 0)=some (A 6)/\W.cell? (V w 2)=some (A o.c)/\W.cell? (V w 4)=some (A o.i1)/\W.cell? (V w 5)=some (A o.i2)/\W.cell? (V w 7)=some (.string o.key)/\W.cell? (V w 8)=some (A o.a)/\W.cell? (V w 9)=some (A o.b)/\W.cell? (V w 10)=some (.bool o.yes)) (first |exact ey l.o n.o|exact ey ((dy (by omega)).trans ((dy (by omega)).trans l.o)) ((dy (by omega)).trans ((dy (by omega)).trans n.o))|exact ey ((ed (by omega)).trans l.o) ((ed (by omega)).trans n.o)|exact ey Q.o y.o|exact ey ((ed (by simp;omega)).trans Q.o) ((ed (by simp)).trans y.o))
   (first |(go_at_call 99;refine(dd.o _ (by go_grown)).mono ?_;rintro e w1 ⟨i,j,m,rfl,t⟩;have gL:=aa t;have l:=aa (t.1.trans X.o);have n:=aa (show w1.heap[w.heap.size]?=some (.cells #[A 6,A o.r,A o.c,A o.d,A o.i1,A o.i2,A o.made,.string o.key,A o.a,A o.b,.bool o.yes] 87 (0,0)) from by(rw[t.2.1 w.heap.size (by first |(simp;done)|(simp;omega)) (U.o _ (apX _))];first |exact y.o|exact(ed (by simp)).trans y.o));have hz1:=t.2.2.1;(try simp at hz1);(try(have s:=aa (show w1.heap[w.heap.size+1]?=some (.cells #[A 0,A 0] 36 (0,0)) from by(rw[t.2.1 (w.heap.size+1) (by simp) (U.o _ (by omega))];exact nh (by simp)));have z0:=(bl s.o).1;have z1:=(bl s.o).2;have B9:=cG s.o));clear t))
  all_goals(go_wp2_with fail;go_meet)
  all_goals first
   |exact⟨_,i,j,m,rfl,rfl,Tp R.o S.o gL.o⟩
   |exact⟨_,i,j,m,rfl,rfl,Tq R.o S.o gL.o⟩
 case rest=>
  obtain⟨D,i,j,m,rfl,rfl,u⟩:=hcut;have l:=aa (u.g.trans X.o);have n:=aa u.b;have eL:=aa u;have Kk:=aN u.a;have qc:=aN u.b;clear u;go_wp2_with fail
  go_cut [19,20] (fun p q Cw=>∃Y,p=Z Y/\q=A m/\Kd w f F x r B told N C D Y i j Cw)
  case first =>
   go_region_held3 (fun W=>W.cell? (H f)=some (Z x)/\W.cell? (K f 1)=some (Z r)/\W.cell? (V w 0)=some (A 6)/\W.cell? (V w 2)=some (A o.c)/\W.cell? (V w 4)=some (A o.i1)/\W.cell? (V w 5)=some (A o.i2)/\W.cell? (V w 7)=some (.string o.key)/\W.cell? (V w 8)=some (A o.a)/\W.cell? (V w 9)=some (A o.b)/\W.cell? (V w 10)=some (.bool o.yes)) (first |exact ey E.o I.o|exact ey ((dy (by omega)).trans ((dy (by omega)).trans E.o)) ((dy (by omega)).trans ((dy (by omega)).trans I.o))|exact ey ((ed (by omega)).trans E.o) ((ed (by omega)).trans I.o)|exact ey l.o n.o|exact ey ((ed (by omega)).trans l.o) ((ed (by omega)).trans n.o))
    (first |(go_at_call 100;refine(eL.o.next _ (by go_grown)).mono ?_;rintro e w2 ⟨rfl,hex,tB,gF,gv⟩;have cT:=aa hex;have I:=aa gF;have E:=aa (show w2.heap[f]?=some (.cells #[Z x,Z r,B] 135 (0,0)) from by(obtain⟨aR,e6,gh,P',v,_⟩:=hex;exact v.blk));have yx:=aa tB;have wQ:=aa gv;have hz2:=aN E.o;have mR:=aN I.o;(try(have s:=aa (show w2.heap[wc.heap.size]?=some (.cells #[A 0,A 0] 36 (0,0)) from by(rw[gv wc.heap.size (apX _) (by simp)];exact nh (by simp)));have z0:=(bl s.o).1;have z1:=(bl s.o).2;have B9:=cG s.o));clear hex tB gF gv))
   all_goals(go_wp2_with fail;go_meet)
   all_goals first
    |exact⟨_,rfl,rfl,Tr (by omega) Kk cT.o yx.o wQ.o⟩
    |exact⟨_,rfl,rfl,Ts cT.o yx.o⟩
  case rest=>
   obtain⟨Y,rfl,rfl,L⟩:=hcut;obtain⟨a0,b2⟩:=bl L.a;obtain⟨cy,bx⟩:=bl L.b;obtain⟨aR,e6,gh,P',v,z⟩:=L.pair;clear L eL l n dd aK y Q X U R S;by_cases hm:m=0
   ·subst hm;have fy:=aa (Tg v i j (by omega));have hs:=aa z;clear z v;go_wp2_with (first |(go_at_call 96;refine fy.o.mono ?_;rintro e w3 ⟨rfl,sa,Kl,oj,hE⟩;have hV:=aa oj;have ns:=aa (hs.o.trans hE);clear oj hE))
    go_ret
    exact⟨rfl,sa,⟨x,r,Kl,told++[(i,j)],e6,gh,N,C,P',by simp;omega,hV.o⟩,ns.o⟩
   have fy:=aa (fun W=>Tf W f i j m hm);have hs:=aa z;have et:=aa v;clear z v;go_wp2_with (first |(go_at_call 96;refine(fy.o _).mono ?_;rintro e w3 ⟨rfl,bb⟩;have hV:=aa (et.o.ae bb);have ns:=aa (hs.o.after bb);clear bb))
   go_ret
   exact⟨rfl,aR,⟨x,r,B,told,e6,gh,N,C,P',by omega,hV.o⟩,ns.o⟩
end
section
open Go.RowKit Tryz
variable {a e r:Nat}{b w:Nat->Prop}{c l m n:List Nat}{d q:World}{f h i j s:Value}{k:Nat->Nat->Prop}{u:TypeId}{v:Nat->Array Value}
theorem kI.gw{w b F c}{a:World}(h:kI w b F c)(d:w.heap.size<=a.heap.size)(e:∀k,F k->a.heap[k]?=w.heap[k]?):kI a b F c:=by
 obtain⟨x,r,f,told,g,i,N,sp,P,j,h⟩:=h;exact⟨x,r,f,told,g,i,N,sp,P,j,h.gw d e⟩
theorem kI.more(h:kI d a b e)(f:e<=r):kI d a b r:=by
 obtain⟨x,c,g,told,i,j,N,k,P,l,h⟩:=h;exact⟨x,c,g,told,i,j,N,k,P,ap0 l f,h⟩
theorem kI.lt{w a F b}(h:kI w a F b):∀k,F k->k<w.heap.size:=by
 obtain⟨x,r,c,told,d,e,N,sp,P,f,h⟩:=h;exact h.lt
def tJ (e b:TypeId) (k:Nat) (c:Nat->Array Value) (a:List Nat) (R:Nat->Prop) (w:World):Prop:=∀i (d:i<a.length),∃n U,tH e b k (c i) n a[i] U w/\R a[i]/\∀j,j<4->∀g,(U j).ownBlock=some g->R g
theorem tJ.mG{e}(h:tJ u e a v c b d):NT u e a v c d:=fun i f=>by
 obtain⟨n,U,g,_⟩:=h i f;exact⟨n,U,g⟩
theorem tJ.ae{e a k c d R w}{w':World}(h:tJ e a k c d R w)(f:∀q l t,R q->w.heap[q]?=some (.cells l t (0,0))->t=e\/t=a->w'.heap[q]?=w.heap[q]?):tJ e a k c d R w':=fun i u=>by
 obtain⟨n,U,b,m,o⟩:=h i u;refine⟨n,U,b.ae (f _ _ _ m b.row (.inr rfl)) fun j p g r=> ?_,m,o⟩;obtain⟨l,v⟩:=(b.s j p).type r;exact f _ _ _ (o j p g r) v (.inl rfl)
theorem tJ.mono{e k R w}(h:tJ e u k v c R w)(a:∀q,R q->b q):tJ e u k v c b w:=fun i d=>by
 obtain⟨n,U,f,l,m⟩:=h i d;exact⟨n,U,f,a _ l,fun j o g p=>a _ (m j o g p)⟩
theorem tJ.add{e w d U}(h:tJ e u r v c b w)(k:tH e u r (v c.length) a d U w)(l:b d)(m:∀j,j<4->∀g,(U j).ownBlock=some g->b g):tJ e u r v (c++[d]) b w:=fun i n=>by
 by_cases f:i<c.length
 ·obtain⟨a,U,h⟩:=h i f;refine⟨a,U,?_⟩;rw[arv f];exact h
 have :i=c.length:=by simp at n;omega
 subst this;refine⟨a,U,?_⟩;simp;exact⟨k,l,m⟩
structure jH (base gy:Nat) (c1 bV cY bQ:Value) (bS aX lb lc:List Nat) (dG:Nat->Nat->Prop) (R:Nat->Prop) (bN:Nat) (w:World):Prop where
 y:w.heap[gy]?=some (.cells #[c1,bV,cY,bQ] 84 (0,0))
 bo:w.ownsRow 0 132 1 c1 bS.length (bS.flatMap iI)
 a:w.ownsRow 0 138 1 bV aX.length (aX.flatMap kZ)
 b:w.ownsRow 0 140 1 cY lb.length (lb.flatMap kZ)
 c:w.ownsRow 0 141 1 bQ lc.length (lc.flatMap kZ)
 eV:∀i (hi:i<bS.length),kI w bS[i] (dG i) bN
 jn:∀i j k,i<bS.length->j<bS.length->i≠j->dG i k->¬dG j k
 oB:∀i k,i<bS.length->dG i k->base<=k
 b3:∀i k,i<bS.length->dG i k->¬R k
 a1:∀k,R k->base<=k/\k<w.heap.size
 me:R gy
 sz:∀k,c1.ownBlock=some k->R k
 ct:∀k,bV.ownBlock=some k->R k
 sA:∀k,cY.ownBlock=some k->R k
 rc:∀k,bQ.ownBlock=some k->R k
 xg:tJ 36 65 2 aa9 aX R w
 CI:tJ 57 53 3 abb lb R w
 fY:tJ 3 24 1 aba lc R w
 wk:bS.length<=bN
 lM:aX.length<=bN
 p2:lb.length<=bN
 lN:lc.length<=bN
 bs:base<=w.heap.size
theorem jH.frame{base B}(o:jH base e f h i j l m n B k w r d)(u:∀p,w p->q.heap[p]?=d.heap[p]?)(E:∀s p,s<l.length->k s p->q.heap[p]?=d.heap[p]?)(z:d.heap.size<=q.heap.size):jH base e f h i j l m n B k w r q:=
 ⟨(u e o.me).trans o.y,ca o.bo fun g v=>u g (o.sz g v),ca o.a fun g v=>u g (o.ct g v),ca o.b fun g v=>u g (o.sA g v),ca o.c fun g v=>u g (o.rc g v),
  fun s C=>(o.eV s C).gw z fun p hF=>E s p C hF,o.jn,o.oB,o.b3,fun p D=>⟨(o.a1 p D).1,ap3 (o.a1 p D).2 z⟩,o.me,o.sz,o.ct,o.sA,o.rc,
  o.xg.ae fun t _ _ x _ _=>u t x,o.CI.ae fun t _ _ x _ _=>u t x,o.fY.ae fun t _ _ x _ _=>u t x,o.wk,o.lM,o.p2,o.lN,ap0 o.bs z⟩
theorem jH.below{base}(o:jH base a f h j s c l m n k b e d)(p:J d q):jH base a f h j s c l m n k b e q:=
 o.frame (fun g r=>p.block g (o.a1 g r).2) (fun i g t hF=>p.block g ((o.eV i t).lt g hF)) p.size
theorem jH.more{base gy b c d e f g j k l R m w}(h:jH base gy b c d e f g j k l R m w){n:Nat}(a:m<=n):jH base gy b c d e f g j k l R n w:=
 {h with eV:=fun i o=>(h.eV i o).more a,wk:=ap0 h.wk a,lM:=ap0 h.lM a,p2:=ap0 h.p2 a,lN:=ap0 h.lN a}
theorem jH.room{base gy W S}(o:jH base gy f h i s l m n W k w r q)(X:e<l.length)(Y:kI d l[e] S r)(C:c6 (k e) S q d):jH base gy f h i s l m n W (fun j=>if j=e then S else k j) w r d:=by
 have v:∀p,w p->d.heap[p]?=q.heap[p]?:=fun p v=>C.other p (o.a1 p v).2 fun hF=>o.b3 e p X hF v
 have hI:∀j p,j<l.length->j≠e->k j p->d.heap[p]?=q.heap[p]?:=fun j p x z hF=>C.other p ((o.eV j x).lt p hF) (o.jn j e p x X z hF)
 have U:=C.size;refine⟨(v gy o.me).trans o.y,ca o.bo fun g D=>v g (o.sz g D),ca o.a fun g D=>v g (o.ct g D),ca o.b fun g D=>v g (o.sA g D),ca o.c fun g D=>v g (o.rc g D),
  fun j x=> ?_,fun F E p L M N=> ?_,fun j p x=> ?_,fun j p x=> ?_,fun p v=>⟨(o.a1 p v).1,ap3 (o.a1 p v).2 U⟩,o.me,o.sz,o.ct,o.sA,o.rc,
  o.xg.ae fun t _ _ I _ _=>v t I,o.CI.ae fun t _ _ I _ _=>v t I,o.fY.ae fun t _ _ I _ _=>v t I,o.wk,o.lM,o.p2,o.lN,ap0 o.bs U⟩
 ·by_cases z:j=e
  ·subst z;simp only[if_true];exact Y
  simp only[if_neg z];exact(o.eV j x).gw U fun p hF=>hI j p x z hF
 ·by_cases P:F=e
  ·have Q:E≠e:=fun u=>N (P.trans u.symm)
   subst P;simp only[if_true,if_neg Q];intro hF R;rcases C.sub p hF with B|B
   ·exact o.jn F E p L M N B R
   have :=(o.eV E M).lt p R;omega
  by_cases Q:E=e
  ·subst Q;simp only[if_true,if_neg P];intro hF R;rcases C.sub p R with B|B
   ·exact o.jn F E p L M N hF B
   have :=(o.eV F L).lt p hF;omega
  simp only[if_neg P,if_neg Q];exact o.jn F E p L M N
 ·by_cases z:j=e
  ·subst z;simp only[if_true];intro hF;rcases C.sub p hF with B|B
   ·exact o.oB j p x B
   have :=o.bs;omega
  simp only[if_neg z];exact o.oB j p x
 by_cases z:j=e
 ·subst z;simp only[if_true];intro hF v;rcases C.sub p hF with B|B
  ·exact o.b3 j p x B v
  have :=(o.a1 p v).2;omega
 simp only[if_neg z];exact o.b3 j p x
theorem jH.under{base gy}(g:jH base gy f h i j c l m n k b e d)(r:a<c.length)(p:c6 (k a) w d q):Below base d q:=
 ⟨p.os,p.tape,p.output,p.size,fun o s=>p.other o (ap3 s g.bs) fun hF=>by have :=g.oB a o r hF;omega⟩
def jc (base gy b:Nat) (w a:World):Prop:=∃c d e f g h i j k R,jH base gy c d e f g h i j k R b a/\Below base w a
theorem jH.amw{base bV bN}(p:jH base e h bV i j l c m n k w bN d)(hN:AF 36 65 138 2 #[A (-7070),A c.length] d e f bV c r (fun x=> #[h,x,i,j]) q)(ux:∀o,f.ownBlock=some o->∀z,z<l.length->¬k z o)(X:∀o,f.ownBlock=some o->¬w o/\base<=o):jc base e (bN+1) d q:=by
 obtain⟨lT,cn,U,fQ,Y,I,de,S,mz,Km⟩:=hN;have P:∀{C:TypeId} {o r:Nat} {u:Value} {xs:List Value},d.ownsRow 0 C o u r xs->∀{v:Nat},u.ownBlock=some v->d.heap[v]?=some (.cells ((match d.heap[v]? with |some (.cells D _ _)=>D|_=> #[])) C (0,0)):=fun af v E=>by
  obtain⟨Q,cr⟩:=bq af E;rw[cr]
 have R:∀(v:Nat) (Q:Array Value) (t:TypeId),w v->d.heap[v]?=some (.cells Q t (0,0))->t≠84->t≠138->q.heap[v]?=d.heap[v]?:=fun v Q t E rA W h2=>I.other v (aN rA) fun L=>by
  rcases L with rfl|L|L
  ·exact W (bK rA p.y)
  ·exact(X v L).1 E
  obtain⟨bc,gM⟩:=bq p.a L;exact h2 (bK rA gM)
 have EV:=fun z o M hF=>I.other o ((p.eV z M).lt o hF) fun L=>by
  rcases L with rfl|L|L
  ·exact p.b3 z _ M hF p.me
  ·exact ux o L z M hF
  exact p.b3 z o M hF (p.ct o L)
 have Kn:∀o,lT.ownBlock=some o->w o\/(f.ownBlock=some o/\o<q.heap.size)\/(d.heap.size<=o/\o<q.heap.size):=fun o N=>by
  rcases de with hn|hn
  ·rw[hn]at N;exact .inl (p.ct o N)
  exact .inr (.inr ⟨hn o N,(ap1 Y o N).2⟩)
 have Ko:∀B,B<4->∀g,(U B).ownBlock=some g->w g\/(f.ownBlock=some g/\g<q.heap.size)\/(d.heap.size<=g/\g<q.heap.size):=fun B au g ag=>by
  rcases Km B au g ag with W|W
  ·exact .inr (.inl ⟨W,(S.s B au).lt g ag⟩)
  exact .inr (.inr ⟨by omega,(S.s B au).lt g ag⟩)
 have hlen:c.length+1=(c++[cn]).length:=by simp
 rw[hlen]at Y;refine⟨h,lT,i,j,l,c++[cn],m,n,k,fun o=>w o\/(f.ownBlock=some o/\o<q.heap.size)\/(d.heap.size<=o/\o<q.heap.size),⟨fQ,ca p.bo fun v E=>R v _ _ (p.sz v E) (P p.bo E) (by decide) (by decide),Y,ca p.b fun v E=>R v _ _ (p.sA v E) (P p.b E) (by decide) (by decide),ca p.c fun v E=>R v _ _ (p.rc v E) (P p.c E) (by decide) (by decide),fun z M=>((p.eV z M).gw I.size fun o hF=>EV z o M hF).more (aqy _),p.jn,p.oB,fun z o M hF F=> ?_,fun o F=> ?_,.inl p.me,fun v E=>.inl (p.sz v E),Kn,fun v E=>.inl (p.sA v E),fun v E=>.inl (p.rc v E),((p.xg.ae fun v Q t E P I=>R v Q t E P (by rcases I with rfl|rfl<;>decide) (by rcases I with rfl|rfl<;>decide)).mono (fun v E=>Or.inl E)).add S (.inr (.inr ⟨by omega,aN S.row⟩)) Ko,(p.CI.ae fun v Q t E P I=>R v Q t E P (by rcases I with rfl|rfl<;>decide) (by rcases I with rfl|rfl<;>decide)).mono (fun v E=>Or.inl E),(p.fY.ae fun v Q t E P I=>R v Q t E P (by rcases I with rfl|rfl<;>decide) (by rcases I with rfl|rfl<;>decide)).mono (fun v E=>Or.inl E),ap0 p.wk (aqy _),by simp;have :=p.lM;omega,ap0 p.p2 (aqy _),ap0 p.lN (aqy _),ap0 p.bs I.size⟩,?_⟩
 ·rcases F with F|F|F
  ·exact p.b3 z o M hF F
  ·exact ux o F.1 z M hF
  have :=(p.eV z M).lt o hF;omega
 ·rcases F with F|F|F
  ·exact⟨(p.a1 o F).1,ap3 (p.a1 o F).2 I.size⟩
  ·exact⟨(X o F.1).2,F.2⟩
  have :=p.bs;exact⟨by omega,F.2⟩
 refine I.under (fun o N=> ?_) p.bs;rcases N with rfl|N|N
 ·exact(p.a1 _ p.me).1
 ·exact(X o N).2
 exact(p.a1 o (p.ct o N)).1
theorem jH.amx{base cY bN}(p:jH base e h i cY j l m c n k w bN d)(hN:AF 57 53 140 3 #[A (-7070-(c.length:Int)),A 0,A 0] d e f cY c r (fun x=> #[h,i,x,j]) q)(ux:∀o,f.ownBlock=some o->∀z,z<l.length->¬k z o)(X:∀o,f.ownBlock=some o->¬w o/\base<=o):jc base e (bN+1) d q:=by
 obtain⟨lT,cn,U,fQ,Y,I,de,S,mz,Km⟩:=hN;have P:∀{C:TypeId} {o r:Nat} {u:Value} {xs:List Value},d.ownsRow 0 C o u r xs->∀{v:Nat},u.ownBlock=some v->d.heap[v]?=some (.cells ((match d.heap[v]? with |some (.cells D _ _)=>D|_=> #[])) C (0,0)):=fun af v E=>by
  obtain⟨Q,cr⟩:=bq af E;rw[cr]
 have R:∀(v:Nat) (Q:Array Value) (t:TypeId),w v->d.heap[v]?=some (.cells Q t (0,0))->t≠84->t≠140->q.heap[v]?=d.heap[v]?:=fun v Q t E rA W h2=>I.other v (aN rA) fun L=>by
  rcases L with rfl|L|L
  ·exact W (bK rA p.y)
  ·exact(X v L).1 E
  obtain⟨bc,gM⟩:=bq p.b L;exact h2 (bK rA gM)
 have EV:=fun z o M hF=>I.other o ((p.eV z M).lt o hF) fun L=>by
  rcases L with rfl|L|L
  ·exact p.b3 z _ M hF p.me
  ·exact ux o L z M hF
  exact p.b3 z o M hF (p.sA o L)
 have Kn:∀o,lT.ownBlock=some o->w o\/(f.ownBlock=some o/\o<q.heap.size)\/(d.heap.size<=o/\o<q.heap.size):=fun o N=>by
  rcases de with hn|hn
  ·rw[hn]at N;exact .inl (p.sA o N)
  exact .inr (.inr ⟨hn o N,(ap1 Y o N).2⟩)
 have Ko:∀B,B<4->∀g,(U B).ownBlock=some g->w g\/(f.ownBlock=some g/\g<q.heap.size)\/(d.heap.size<=g/\g<q.heap.size):=fun B au g ag=>by
  rcases Km B au g ag with W|W
  ·exact .inr (.inl ⟨W,(S.s B au).lt g ag⟩)
  exact .inr (.inr ⟨by omega,(S.s B au).lt g ag⟩)
 have hlen:c.length+1=(c++[cn]).length:=by simp
 rw[hlen]at Y;refine⟨h,i,lT,j,l,m,c++[cn],n,k,fun o=>w o\/(f.ownBlock=some o/\o<q.heap.size)\/(d.heap.size<=o/\o<q.heap.size),⟨fQ,ca p.bo fun v E=>R v _ _ (p.sz v E) (P p.bo E) (by decide) (by decide),ca p.a fun v E=>R v _ _ (p.ct v E) (P p.a E) (by decide) (by decide),Y,ca p.c fun v E=>R v _ _ (p.rc v E) (P p.c E) (by decide) (by decide),fun z M=>((p.eV z M).gw I.size fun o hF=>EV z o M hF).more (aqy _),p.jn,p.oB,fun z o M hF F=> ?_,fun o F=> ?_,.inl p.me,fun v E=>.inl (p.sz v E),fun v E=>.inl (p.ct v E),Kn,fun v E=>.inl (p.rc v E),(p.xg.ae fun v Q t E P I=>R v Q t E P (by rcases I with rfl|rfl<;>decide) (by rcases I with rfl|rfl<;>decide)).mono (fun v E=>Or.inl E),((p.CI.ae fun v Q t E P I=>R v Q t E P (by rcases I with rfl|rfl<;>decide) (by rcases I with rfl|rfl<;>decide)).mono (fun v E=>Or.inl E)).add S (.inr (.inr ⟨by omega,aN S.row⟩)) Ko,(p.fY.ae fun v Q t E P I=>R v Q t E P (by rcases I with rfl|rfl<;>decide) (by rcases I with rfl|rfl<;>decide)).mono (fun v E=>Or.inl E),ap0 p.wk (aqy _),ap0 p.lM (aqy _),by simp;have :=p.p2;omega,ap0 p.lN (aqy _),ap0 p.bs I.size⟩,?_⟩
 ·rcases F with F|F|F
  ·exact p.b3 z o M hF F
  ·exact ux o F.1 z M hF
  have :=(p.eV z M).lt o hF;omega
 ·rcases F with F|F|F
  ·exact⟨(p.a1 o F).1,ap3 (p.a1 o F).2 I.size⟩
  ·exact⟨(X o F.1).2,F.2⟩
  have :=p.bs;exact⟨by omega,F.2⟩
 refine I.under (fun o N=> ?_) p.bs;rcases N with rfl|N|N
 ·exact(p.a1 _ p.me).1
 ·exact(X o N).2
 exact(p.a1 o (p.sA o N)).1
theorem jH.amy{base bQ bN}(p:jH base e h i j bQ l m n c k w bN d)(hN:AF 3 24 141 1 #[A (-7070-(c.length:Int))] d e f bQ c r (fun x=> #[h,i,j,x]) q)(ux:∀o,f.ownBlock=some o->∀z,z<l.length->¬k z o)(X:∀o,f.ownBlock=some o->¬w o/\base<=o):jc base e (bN+1) d q:=by
 obtain⟨lT,cn,U,fQ,Y,I,de,S,mz,Km⟩:=hN;have P:∀{C:TypeId} {o r:Nat} {u:Value} {xs:List Value},d.ownsRow 0 C o u r xs->∀{v:Nat},u.ownBlock=some v->d.heap[v]?=some (.cells ((match d.heap[v]? with |some (.cells D _ _)=>D|_=> #[])) C (0,0)):=fun af v E=>by
  obtain⟨Q,cr⟩:=bq af E;rw[cr]
 have R:∀(v:Nat) (Q:Array Value) (t:TypeId),w v->d.heap[v]?=some (.cells Q t (0,0))->t≠84->t≠141->q.heap[v]?=d.heap[v]?:=fun v Q t E rA W h2=>I.other v (aN rA) fun L=>by
  rcases L with rfl|L|L
  ·exact W (bK rA p.y)
  ·exact(X v L).1 E
  obtain⟨bc,gM⟩:=bq p.c L;exact h2 (bK rA gM)
 have EV:=fun z o M hF=>I.other o ((p.eV z M).lt o hF) fun L=>by
  rcases L with rfl|L|L
  ·exact p.b3 z _ M hF p.me
  ·exact ux o L z M hF
  exact p.b3 z o M hF (p.rc o L)
 have Kn:∀o,lT.ownBlock=some o->w o\/(f.ownBlock=some o/\o<q.heap.size)\/(d.heap.size<=o/\o<q.heap.size):=fun o N=>by
  rcases de with hn|hn
  ·rw[hn]at N;exact .inl (p.rc o N)
  exact .inr (.inr ⟨hn o N,(ap1 Y o N).2⟩)
 have Ko:∀B,B<4->∀g,(U B).ownBlock=some g->w g\/(f.ownBlock=some g/\g<q.heap.size)\/(d.heap.size<=g/\g<q.heap.size):=fun B au g ag=>by
  rcases Km B au g ag with W|W
  ·exact .inr (.inl ⟨W,(S.s B au).lt g ag⟩)
  exact .inr (.inr ⟨by omega,(S.s B au).lt g ag⟩)
 have hlen:c.length+1=(c++[cn]).length:=by simp
 rw[hlen]at Y;refine⟨h,i,j,lT,l,m,n,c++[cn],k,fun o=>w o\/(f.ownBlock=some o/\o<q.heap.size)\/(d.heap.size<=o/\o<q.heap.size),⟨fQ,ca p.bo fun v E=>R v _ _ (p.sz v E) (P p.bo E) (by decide) (by decide),ca p.a fun v E=>R v _ _ (p.ct v E) (P p.a E) (by decide) (by decide),ca p.b fun v E=>R v _ _ (p.sA v E) (P p.b E) (by decide) (by decide),Y,fun z M=>((p.eV z M).gw I.size fun o hF=>EV z o M hF).more (aqy _),p.jn,p.oB,fun z o M hF F=> ?_,fun o F=> ?_,.inl p.me,fun v E=>.inl (p.sz v E),fun v E=>.inl (p.ct v E),fun v E=>.inl (p.sA v E),Kn,(p.xg.ae fun v Q t E P I=>R v Q t E P (by rcases I with rfl|rfl<;>decide) (by rcases I with rfl|rfl<;>decide)).mono (fun v E=>Or.inl E),(p.CI.ae fun v Q t E P I=>R v Q t E P (by rcases I with rfl|rfl<;>decide) (by rcases I with rfl|rfl<;>decide)).mono (fun v E=>Or.inl E),((p.fY.ae fun v Q t E P I=>R v Q t E P (by rcases I with rfl|rfl<;>decide) (by rcases I with rfl|rfl<;>decide)).mono (fun v E=>Or.inl E)).add S (.inr (.inr ⟨by omega,aN S.row⟩)) Ko,ap0 p.wk (aqy _),ap0 p.lM (aqy _),ap0 p.p2 (aqy _),by simp;have :=p.lN;omega,ap0 p.bs I.size⟩,?_⟩
 ·rcases F with F|F|F
  ·exact p.b3 z o M hF F
  ·exact ux o F.1 z M hF
  have :=(p.eV z M).lt o hF;omega
 ·rcases F with F|F|F
  ·exact⟨(p.a1 o F).1,ap3 (p.a1 o F).2 I.size⟩
  ·exact⟨(X o F.1).2,F.2⟩
  have :=p.bs;exact⟨by omega,F.2⟩
 refine I.under (fun o N=> ?_) p.bs;rcases N with rfl|N|N
 ·exact(p.a1 _ p.me).1
 ·exact(X o N).2
 exact(p.a1 o (p.rc o N)).1
def sG:fV:=⟨fun _=>[],s0,Td⟩
theorem amz(N:Nat):G0 N sG:=
 ⟨⟨fun _ _=>rfl,fun _ _ _ _=>rfl,fun _ _=>rfl,fun _ _ i n _ _=>⟨fun h=>(by cases h),fun h=>(by cases h)⟩,fun _ _ _ _ _=>trivial,fun _ _ _ _ _=>rfl,fun _ _ _ _ _ _ _=>rfl,fun _ _ _ _ _ _=>apZ _⟩,gS.new N,fun _ _ o a=>(by cases a),fun _ _ _ _=>rfl,fun _ _ _ _ _ _ _=>apZ _⟩
theorem amA(b:d.heap[a]?=some (.cells #[s,f,h,i] u (0,0))):(d.setCell (H a) j).heap[a]?=some (.cells #[j,f,h,i] u (0,0)):=by
 simp[World.setCell,ars,b]
theorem jH.opened{base bN B N sp}(p:jH base e h i j s c l m n k w bN q){U M:World}(aq:J q U)(ah:uY U r (fun g=>q.heap.size<=g/\g<U.heap.size) N sp sG)(aY:J U d)(aH:tG d B (fun g=>U.heap.size<=g/\g<d.heap.size) N sG)(af:M.ownsRow 0 132 1 f (c.length+1) ((c++[d.heap.size]).flatMap iI))(ag:((d.alloc (.cells #[Z r,Z B,.slice none 0 0] 135)).alloc (.cells #[Z d.heap.size] 132)).grownBy M h.ownBlock)(hn:iR ((d.alloc (.cells #[Z r,Z B,.slice none 0 0] 135)).alloc (.cells #[Z d.heap.size] 132)) h f):jc base e (bN+1) q (M.setCell (H e) f):=by
 have hz1:=aq.size;have hz2:=aY.size;have zH:=ag.size;simp at zH;have hgy:=(p.a1 e p.me).2;have lv:=fun g F=>(p.a1 g (p.sz g F)).2
 have hz5:(M.setCell (H e) f).heap.size=M.heap.size:=by simp
 have nW:∀g,g<=d.heap.size->g≠e->h.ownBlock≠some g->(M.setCell (H e) f).heap[g]?=(d.alloc (.cells #[Z r,Z B,.slice none 0 0] 135)).heap[g]?:=fun g F L R=>
  (dy L).trans ((ag.block g (by simp;omega) (aqa R)).trans (ed (by simp;omega)))
 have hI:∀g,g<q.heap.size->g≠e->h.ownBlock≠some g->(M.setCell (H e) f).heap[g]?=q.heap[g]?:=fun g F L R=>
  (nW g (by omega) L R).trans ((ed (by omega)).trans ((aY.block g (by omega)).trans (aq.block g F)))
 have h1k:∀g,q.heap.size<=g->g<U.heap.size->(M.setCell (H e) f).heap[g]?=U.heap[g]?:=fun g F c3=>
  (nW g (by omega) (by omega) (fun x=>by have :=lv g x;omega)).trans ((ed (by omega)).trans (aY.block g c3))
 have h2k:∀g,U.heap.size<=g->g<d.heap.size->(M.setCell (H e) f).heap[g]?=d.heap[g]?:=fun g F c3=>
  (nW g (by omega) (by omega) (fun x=>by have :=lv g x;omega)).trans (ed (by omega))
 have s9:(M.setCell (H e) f).heap[d.heap.size]?=some (.cells #[Z r,Z B,.slice none 0 0] 135 (0,0)):=
  (nW _ (apX _) (by omega) (fun x=>by have :=lv _ x;omega)).trans (bI d _)
 have xi:M.heap[e]?=some (.cells #[h,i,j,s] 84 (0,0)):=by
  refine(ag.block e (by simp;omega) fun x=> ?_).trans ((ed (by simp;omega)).trans ((ed (by omega)).trans ((aY.block e (by omega)).trans ((aq.block e hgy).trans p.y))));obtain⟨S,Q⟩:=bq p.bo x.symm;exact absurd (bK Q p.y) (by decide)
 have bp:f.ownBlock≠some e:=fun x=>by
  obtain⟨S,Q⟩:=bq af x;exact absurd (bK Q xi) (by decide)
 have vG:=iV af bp (o:=0) f;have Y:∀(v:Nat) (S:Array Value) (t:TypeId),w v->q.heap[v]?=some (.cells S t (0,0))->t≠84->t≠132->(M.setCell (H e) f).heap[v]?=q.heap[v]?:=fun v S t I rA L R=>hI v (aN rA) (fun x=>by subst x;exact L (bK rA p.y)) fun x=>by
  obtain⟨bc,gM⟩:=bq p.bo x;exact R (bK rA gM)
 have EV:∀z g,z<c.length->k z g->(M.setCell (H e) f).heap[g]?=q.heap[g]?:=fun z g X hF=>hI g ((p.eV z X).lt g hF) (fun x=>p.b3 z g X hF (x▸p.me)) fun x=>p.b3 z g X hF (p.sz g x)
 have Q:∀{x:TypeId} {g D:Nat} {u:Value} {xs:List Value},q.ownsRow 0 x g u D xs->∀{v:Nat},u.ownBlock=some v->q.heap[v]?=some (.cells ((match q.heap[v]? with |some (.cells E _ _)=>E|_=> #[])) x (0,0)):=fun af v I=>by
  obtain⟨S,cr⟩:=bq af I;rw[cr]
 have mW:fW (M.setCell (H e) f) d.heap.size (fun g=>q.heap.size<=g/\g<=d.heap.size) r B (.slice none 0 0) [] (fun g=>q.heap.size<=g/\g<U.heap.size) (fun g=>U.heap.size<=g/\g<d.heap.size) N sp sG:=by
  exact⟨s9,aqe _ _ _ _,ah.gw (by omega) fun g F=>h1k g F.1 F.2,aH.ae (by omega) fun g F=>h2k g F.1 F.2,amz N,fun g F=>⟨F.1,by omega⟩,fun g F=>⟨by omega,by omega⟩,⟨by omega,apX _⟩,fun g F=>by simp[Value.ownBlock]at F,fun g L R=>by omega,fun L=>by omega,fun L=>by omega,fun g F=>by simp[Value.ownBlock]at F,fun g F=>by simp[Value.ownBlock]at F,fun g F=>by omega⟩
 have hlen:c.length+1=(c++[d.heap.size]).length:=by simp
 rw[hlen]at vG;refine⟨f,i,j,s,c++[d.heap.size],l,m,n,fun C=>if C=c.length then(fun g=>q.heap.size<=g/\g<=d.heap.size) else k C,fun g=>w g\/(d.heap.size<g/\g<M.heap.size),⟨amA xi,vG,ca p.a fun v I=>Y v _ _ (p.ct v I) (Q p.a I) (by decide) (by decide),ca p.b fun v I=>Y v _ _ (p.sA v I) (Q p.b I) (by decide) (by decide),ca p.c fun v I=>Y v _ _ (p.rc v I) (Q p.c I) (by decide) (by decide),fun z X=> ?_,fun kl h7 g sl xx au=> ?_,fun z g X=> ?_,fun z g X=> ?_,fun g P=> ?_,.inl p.me,fun g F=> ?_,fun v I=>.inl (p.ct v I),fun v I=>.inl (p.sA v I),fun v I=>.inl (p.rc v I),
  (p.xg.ae fun v S t I Q W=>Y v S t I Q (by rcases W with rfl|rfl<;>decide) (by rcases W with rfl|rfl<;>decide)).mono (fun v I=>Or.inl I),(p.CI.ae fun v S t I Q W=>Y v S t I Q (by rcases W with rfl|rfl<;>decide) (by rcases W with rfl|rfl<;>decide)).mono (fun v I=>Or.inl I),(p.fY.ae fun v S t I Q W=>Y v S t I Q (by rcases W with rfl|rfl<;>decide) (by rcases W with rfl|rfl<;>decide)).mono (fun v I=>Or.inl I),by simp;have :=p.wk;omega,ap0 p.lM (aqy _),ap0 p.p2 (aqy _),ap0 p.lN (aqy _),by have :=p.bs;omega⟩,?_⟩
 ·by_cases hl:z<c.length
  ·rw[arv hl];simp only[if_neg (show z≠c.length by omega)];exact((p.eV z hl).gw (by omega) fun g hF=>EV z g hl hF).more (aqy _)
  have :z=c.length:=by simp at X;omega
  subst this;simp;exact⟨r,B,.slice none 0 0,[],_,_,N,sp,_,by simp,mW⟩
 ·simp at sl xx;by_cases L:kl=c.length
  ·have R:h7≠c.length:=fun x=>au (L.trans x.symm)
   simp only[if_pos L,if_neg R];intro hF vS;have :=(p.eV h7 (by omega)).lt g vS;omega
  by_cases R:h7=c.length
  ·simp only[if_pos R,if_neg L];intro hF vS;have :=(p.eV kl (by omega)).lt g hF;omega
  simp only[if_neg L,if_neg R];exact p.jn kl h7 g (by omega) (by omega) au
 ·simp at X;by_cases L:z=c.length
  ·simp only[if_pos L];intro hF;have :=p.bs;omega
  simp only[if_neg L];exact p.oB z g (by omega)
 ·simp at X;by_cases L:z=c.length
  ·simp only[if_pos L];intro hF P;rcases P with P|P
   ·have :=(p.a1 g P).2;omega
   omega
  simp only[if_neg L];intro hF P;have :=(p.eV z (by omega)).lt g hF;rcases P with P|P
  ·exact p.b3 z g (by omega) hF P
  omega
 ·rcases P with P|P
  ·exact⟨(p.a1 g P).1,by have :=(p.a1 g P).2;omega⟩
  have :=p.bs;exact⟨by omega,by omega⟩
 ·rcases hn with hn|hn
  ·rw[hn]at F;exact .inl (p.sz g F)
  have L:=hn g F;simp at L;exact .inr ⟨by omega,by have :=(ap1 af g F).2;omega⟩
 have kh:=p.bs;have W:aO (fun g=>g=e\/h.ownBlock=some g) q (M.setCell (H e) f):=
  (aO.cJ (aq.trans (aY.mono hz1))).trans ((aO.cJ (((apY _ d).alloc (apX _) _).alloc (by simp) _)).trans ((aO.r2 ag fun g F=>.inr F).trans (aO.kU _ (.inl rfl))))
 refine W.under (fun g F=> ?_) kh;rcases F with rfl|F
 ·exact(p.a1 _ p.me).1
 exact(p.a1 g (p.sz g F)).1
theorem amB(N s:Nat)(c:1<=N)(d:N<=4)(f:1<=s)(g:s<=50)(w:World):
  O 37 #[A N,A s] w fun e a=>J w a/\∃x,e=.returned (.tuple #[Z x,A 0])/\uY a x (fun k=>w.heap.size<=k/\k<a.heap.size) N s sG:=
 (aj1 N s c d f g w).mono fun e a ⟨i,r,x,j,l⟩=>⟨i,r,j,_,_,x,l,fun k b=>b.elim id fun h=>h.elim,fun k b=>b.2⟩
theorem amC(N s:Nat)(f:1<=N)(g:N<=4)(h:1<=s)(i:s<=50)(w:World):
  O 93 #[A N,A s] w fun e b=>J w b/\∃r,e=.returned (.tuple #[Z r,A 0])/\tG b r (fun k=>w.heap.size<=k/\k<b.heap.size) N sG:=
 (als N s f g h i w).mono fun e b ⟨j,r,F,L,x,l,c,d⟩=>⟨j,r,l,F,L,_,x,c,fun k a=>by
  rcases a with a|a|a
  ·exact⟨d k (.inl a),c.ct.lt k a⟩
  ·exact⟨d k (.inr a),c.lt k a⟩
  simp_all,fun k a=>a.2⟩
theorem amD{base}(p:jH base a f h i j c l m n k b e d)(ni:e<2000000000000)(g B:Int):
  O 66 #[Z a,A g,A B] d fun q U=>q=.returned (.bool true)/\jc base a (e+1) d U:=by
 by_cases C:1<=g/\g<=4/\1<=B/\B<=50
 ·obtain⟨N,rfl⟩:∃N:Nat,g=N:=⟨g.toNat,by omega⟩;obtain⟨L,rfl⟩:∃N:Nat,B=N:=⟨B.toNat,by omega⟩;have D:=aa (amB N L (by omega) (by omega) (by omega) (by omega) d);have E:=aa (amC N L (by omega) (by omega) (by omega) (by omega));have M:=p;have yP:=p.wk;obtain⟨s,t,rfl,kC,gM,aD⟩:=bm p.bo;have c9:=(p.a1 a p.me).2;go_enter func66,ntmps66;go_wp2_with (first
   |(go_at_call 37;refine D.o.mono ?_;rintro q P ⟨W,x,rfl,X⟩;have F:=W;have Y:=X)
   |(go_at_call 93;refine(E.o P).mono ?_;rintro q w ⟨aY,r,rfl,gU⟩;have I:=aY;have ff:=gU;have hz1:=F.size;have hz2:=I.size;have z:=aa ((M.below F).below I);have y0:w.cell? (H a)=some (.slice s c.length t):=(by simp[World.cell?,z.o.y]);have js:=show((w.alloc (.cells #[Z x,Z r,.slice none 0 0] 135)).alloc (.cells #[Z w.heap.size] 132)).ownsRow 0 132 1 (.slice s c.length t) c.length (c.flatMap iI) from c7 z.o.bo (by go_grown);have oi:=show ∀v u,(iI w.heap.size)[v]?=some u->((w.alloc (.cells #[Z x,Z r,.slice none 0 0] 135)).alloc (.cells #[Z w.heap.size] 132)).cell? (K (w.heap.size+1) v)=some u from P8 (by simp);have p5:=show some a≠(Value.slice s c.length t).ownBlock from fun hR=>by(obtain⟨cur,C⟩:=bq z.o.bo hR.symm;exact absurd (bK C z.o.y) (by decide)))
   |(at_builtin;refine zB iI 1 8 77 132 (.pointer none) (by rfl) underlying77 rfl (by omega) (fun _=>rfl) rfl (.tmp 39) (.tmp 44) rfl 0 (.slice s c.length t) c rfl js (w.heap.size+1) 1 w.heap.size rfl oi (P7 _) (by omega) (by unfold maxLen;omega) (apZ _) ?_;intro v4 w4 ha Q fR;have R:=ha;have j8:=Q;have iY:=fR;have S:=(Q.block a (by simp;omega) p5).trans ((ed (by simp;omega)).trans ((ed (by omega)).trans z.o.y));obtain⟨a4,j9,rfl,uv,vC,wX⟩:=bm R;have bc:w4.cell? (H a)=some (.slice s c.length t):=(by simp[World.cell?,S]);have vb:=cG S 0))
  go_ret
  exact⟨rfl,M.opened F Y I ff R j8 iY⟩
 have D:=aa (aj0 g B C);have E:=aa (aeg g B (by omega));have z:=aa (show jc base a (e+1) d d from⟨_,_,_,_,_,_,_,_,_,_,p.more (aqy _),apY _ _⟩);go_enter func66,ntmps66;go_wp2_with (first
  |(go_at_call 37;refine(D.o d).mono ?_;rintro q P ⟨rfl,rfl⟩)
  |(go_at_call 93;refine(E.o _).mono ?_;rintro q w ⟨rfl,rfl⟩))
 go_ret
 exact⟨rfl,z.o⟩
def EW (f:Int):Prop:=∀(w:World) (g:Nat) (F:Nat->Prop) (h:Nat),kI w g F h->∀o:jX,13<=o.kind->o.kind<=f->O 70 #[Z g,.agg #[A o.kind,A o.r,A o.c,A o.d,A o.i1,A o.i2,A o.made,.string o.key,A o.a,A o.b,.bool o.yes]] w fun e i=>e=.returned (.bool true)/\xC w g F (h+1) i
theorem abn{base y C u p}(g:jH base y f h i j l m n C k w u q)(v:e<l.length)(o:jX)(D:EW p)(x:13<=o.kind)(t:o.kind<=p):
  O 70 #[Z (l[e]),.agg #[A o.kind,A o.r,A o.c,A o.d,A o.i1,A o.i2,A o.made,.string o.key,A o.a,A o.b,.bool o.yes]] q fun s z=>s=.returned (.bool true)/\jc base y (u+1) q z:=by
 refine(D q l[e] (k e) u (g.eV e v) o x t).mono fun s z B=>⟨B.1,?_⟩
 obtain⟨E,x,t⟩:=B.2;exact⟨_,_,_,_,_,_,_,_,_,_,(g.more (aqy _)).room v x t,g.under v t⟩
theorem abo{base B D u}(p:jH base B f h i j l m n D k w u q)(x:u<2000000000000)(y:e<l.length)(o:jX)(t:p8 o)(z:2<=o.kind)(R:o.kind<=8):
  O 68 #[Z (l[e]),.agg #[A o.kind,A o.r,A o.c,A o.d,A o.i1,A o.i2,A o.made,.string o.key,A o.a,A o.b,.bool o.yes]] q fun g v=>g=.returned (.bool true)/\jc base B (u+1) q v:=by
 have s:=p.eV e y;have E:O 68 #[Z (l[e]),.agg #[A o.kind,A o.r,A o.c,A o.d,A o.i1,A o.i2,A o.made,.string o.key,A o.a,A o.b,.bool o.yes]] q fun g v=>g=.returned (.bool true)/\xC q l[e] (k e) (u+1) v:=by
  by_cases F:o.kind=2
  ·exact al6 s o t F
  by_cases I:o.kind=3
  ·exact amt s o t I x
  by_cases L:o.kind=4
  ·exact al7 s o t L
  by_cases M:o.kind=5
  ·exact amu s o t M x
  by_cases N:o.kind=6
  ·exact amv s o N x
  by_cases P:o.kind=7
  ·exact al8 s o t P
  exact al9 s o (by omega)
 refine E.mono fun g v C=>⟨C.1,?_⟩
 obtain⟨S,Q,z⟩:=C.2;exact⟨_,_,_,_,_,_,_,_,_,_,(p.more (aqy _)).room y Q z,p.under y z⟩
theorem abp{base gy lc W}(p:jH base gy f h i j l m n lc k w W q)(ni:W<2000000000000)(z:e<l.length)(o:jX)(x:p8 o)(pD:Pow q)(B:9<=o.kind)(ur:o.kind<=12):
  O 69 #[Z gy,Z (l[e]),.agg #[A o.kind,A o.r,A o.c,A o.d,A o.i1,A o.i2,A o.made,.string o.key,A o.a,A o.b,.bool o.yes]] q fun t I=>t=.returned (.bool true)/\jc base gy (W+1) q I:=by
 have U:=p.eV e z;have hna:=p.lM;have wS:=p.p2;have KO:=p.lN;by_cases NZ:o.kind=9
 ·refine(amn U (gy:=gy) o NZ pD).mono fun t I C=>⟨C.1,?_⟩
  obtain⟨F,E,B,_⟩:=C.2;exact⟨_,_,_,_,_,_,_,_,_,_,(p.more (aqy _)).room z (E.more (aqy _)) B,p.under z B⟩
 have X:∀{wm:World} {F:Nat->Prop} {v:Value},(∀g,F g->k e g)->(∀g,v.ownBlock=some g->q.heap.size<=g)->(∀g,v.ownBlock=some g->∀s,s<l.length->¬(if s=e then F else k s) g)/\(∀g,v.ownBlock=some g->¬w g):=fun p0 Y=>by
  refine⟨fun g x s au hF=> ?_,fun g x bw=>by have :=Y g x;have :=(p.a1 g bw).2;omega⟩;have dZ:=Y g x;by_cases mJ:s=e
  ·rw[if_pos mJ]at hF;have :=(p.eV e z).lt g (p0 g hF);omega
  rw[if_neg mJ]at hF;have :=(p.eV s au).lt g hF;omega
 by_cases N0:o.kind=10
 ·refine(amo U o N0 p.y (fun hF=>p.b3 e _ z hF p.me) (by omega) p.a (fun g x hF=>p.b3 e g z hF (p.ct g x))).mono fun t I C=>⟨C.1,?_⟩
  obtain⟨wm,v,u,F,E,B,L,D,b1,M⟩:=C.2;have N:=p.room z E B;obtain⟨P,Q⟩:=X (wm:=wm) L D;obtain⟨pE,lT,vb',vc,abq,la',lb',lc',FF',k9,R,S⟩:=N.amw M P fun g x=>⟨Q g x,by have :=D g x;have :=p.bs;omega⟩
  exact⟨_,_,_,_,_,_,_,_,_,_,R,(p.under z B).trans S⟩
 by_cases e11:o.kind=11
 ·refine(amp U o e11 p.y (fun hF=>p.b3 e _ z hF p.me) (by omega) p.b (fun g x hF=>p.b3 e g z hF (p.sA g x)) x.key).mono fun t I C=>⟨C.1,?_⟩
  obtain⟨wm,v,u,F,E,B,L,D,b1,M⟩:=C.2;have N:=p.room z E B;obtain⟨P,Q⟩:=X (wm:=wm) L D;obtain⟨pE,lT,vb',vc,abq,la',lb',lc',FF',k9,R,S⟩:=N.amx M P fun g x=>⟨Q g x,by have :=D g x;have :=p.bs;omega⟩
  exact⟨_,_,_,_,_,_,_,_,_,_,R,(p.under z B).trans S⟩
 refine(ams U o (by omega) p.y (fun hF=>p.b3 e _ z hF p.me) (by omega) p.c (fun g x hF=>p.b3 e g z hF (p.rc g x))).mono fun t I C=>⟨C.1,?_⟩
 obtain⟨wm,v,u,F,E,B,L,D,b1,M⟩:=C.2;have N:=p.room z E B;obtain⟨P,Q⟩:=X (wm:=wm) L D;obtain⟨pE,lT,vb',vc,abq,la',lb',lc',FF',k9,R,S⟩:=N.amy M P fun g x=>⟨Q g x,by have :=D g x;have :=p.bs;omega⟩
 exact⟨_,_,_,_,_,_,_,_,_,_,R,(p.under z B).trans S⟩
end
section
open Go.RowKit Tryz
attribute [local go_sem ↓] Go.wp_at_zero Go.wp_at_succ
variable {a c r s:Nat}{b:World}{d i k m:List Nat}{e:Nat->Nat->Prop}{f:Nat->Prop}{h j l n u:Value}{q:Int}
theorem Kp{W:World}{b c d e f g h i:Int}{j:ByteArray}{yes:Bool}(k:W.heap[a]?=some (.cells #[A q,A b,A c,A d,A e,A f,A g,.string j,A h,A i,.bool yes] 87 (0,0))):
  W.cell? (H a)=some (A q)/\W.cell? (K a 1)=some (A b)/\W.cell? (K a 2)=some (A c)/\W.cell? (K a 3)=some (A d)/\W.cell? (K a 4)=some (A e)/\W.cell? (K a 5)=some (A f)/\W.cell? (K a 6)=some (A g)/\W.cell? (K a 7)=some (.string j)/\W.cell? (K a 8)=some (A h)/\W.cell? (K a 9)=some (A i)/\W.cell? (K a 10)=some (.bool yes):=by
 refine⟨?_,?_,?_,?_,?_,?_,?_,?_,?_,?_,?_⟩<;>simp[World.cell?,k]
theorem abr{e:TypeId}(h:b.ownsRow 0 e 1 (.slice (some (H c)) a r) a (d.flatMap iI))(g:a=d.length)(i:Nat)(j:i<d.length):b.cell? (K c i)=some (Z (d[i])):=by
 have :=ir (f:=iI) (k:=1) (fun _=>rfl) h g i j 0 (by omega);simpa[iI]using this
theorem jc.from{w'}{base:Nat}{w:World}(d:J w b)(e:base<=w.heap.size)(h:jc base a c b w'):jc base a c w w':=by
 obtain⟨f,g,i,j,k,l,m,n,o,R,p,q⟩:=h;exact⟨f,g,i,j,k,l,m,n,o,R,p,(d.mono e).trans q⟩
theorem amE{base u q w}(g:jH base s h j l n i k m u e f q w)(v:q<2000000000000)(o:jX)(x:o.kind=1):
  O 35 #[Z s,.agg #[A o.kind,A o.r,A o.c,A o.d,A o.i1,A o.i2,A o.made,.string o.key,A o.a,A o.b,.bool o.yes]] w fun p y=>p=.returned (.bool true)/\jc base s (q+1) w y:=by
 rw[x];have t:=(apY w.heap.size w).alloc (apX _) (.cells #[A 1,A o.r,A o.c,A o.d,A o.i1,A o.i2,A o.made,.string o.key,A o.a,A o.b,.bool o.yes] 87);go_enter func35,ntmps35;go_wp2_with (first
  |(go_at_call 66;refine(amD (g.below t) v o.a o.b).mono ?_;rintro p B ⟨rfl,z⟩))
 go_ret
 exact⟨rfl,z.from t g.bs⟩
theorem amF{base u w}(g:jH base a h j l n i k m u e f c w)(o:jX)(z:2<=o.kind/\o.kind<=22)(v:i.length=0):
  O 35 #[Z a,.agg #[A o.kind,A o.r,A o.c,A o.d,A o.i1,A o.i2,A o.made,.string o.key,A o.a,A o.b,.bool o.yes]] w fun p x=>p=.returned (.bool true)/\jc base a (c+1) w x:=by
 have t:=(apY w.heap.size w).alloc (apX _) (.cells #[A o.kind,A o.r,A o.c,A o.d,A o.i1,A o.i2,A o.made,.string o.key,A o.a,A o.b,.bool o.yes] 87);obtain⟨q,s,rfl,B,C,D⟩:=bm g.bo;have E:(w.alloc (.cells #[A o.kind,A o.r,A o.c,A o.d,A o.i1,A o.i2,A o.made,.string o.key,A o.a,A o.b,.bool o.yes] 87)).cell? (H a)=some (.slice q 0 s):=by
  have :=(g.below t).y;simp[World.cell?,this,v]
 have F:=(g.a1 a g.me).2;have I:a≠w.heap.size:=by omega
 have L:¬(o.kind=1):=by omega
 have M:¬(o.kind<2):=by omega
 have N:¬(22<o.kind):=by omega
 go_enter func35,ntmps35;go_wp2;go_ret
 exact⟨rfl,show jc base a (c+1) w (w.alloc (.cells #[A o.kind,A o.r,A o.c,A o.d,A o.i1,A o.i2,A o.made,.string o.key,A o.a,A o.b,.bool o.yes] 87)) from⟨_,_,_,_,_,_,_,_,_,_,(g.below t).more (aqy _),t.mono g.bs⟩⟩
theorem amG{base bQ lc w B}(h:jH base a l n u bQ i k m lc e f c w)(ni:c<2000000000000)(o:jX)(v:p8 o)(pD:Pow w)(cv:EW q)(ck:q<=22)(fr:2<=o.kind/\o.kind<=q)(I:0<i.length)(N:w.heap[i[wj o.r i.length]'(yV _ I)]?=some (.cells #[Z r,Z s,j] 135 (0,0)))(Q:gA 0 w j B)(R:0<o.made/\0<B.length):
  O 35 #[Z a,.agg #[A o.kind,A o.r,A o.c,A o.d,A o.i1,A o.i2,A o.made,.string o.key,A o.a,A o.b,.bool o.yes]] w fun g w'=>g=.returned (.bool true)/\jc base a (c+1) w w':=by
 have D:=aa ((apY w.heap.size w).alloc (apX _) (.cells #[A o.kind,A o.r,A o.c,A o.d,A o.i1,A o.i2,A o.made,.string o.key,A o.a,A o.b,.bool o.yes] 87));have aP:=aa (bI w (.cells #[A o.kind,A o.r,A o.c,A o.d,A o.i1,A o.i2,A o.made,.string o.key,A o.a,A o.b,.bool o.yes] 87));have S:=h.bs;have yP:=h.wk;have xl:=(h.a1 a h.me).2;have JL:a≠w.heap.size:=by omega
 have L:=yV o.r I;have N2:=aa (Tt o.r i.length v.r.1 v.r.2 I (by omega));have dD:=aa (fun W (E:J w W) (x z:Int) (ur:o.kind<=8)=>abo (h.below E) ni L {o with i1:=x,i2:=z} ⟨v.r,v.made,v.a,v.b,v.key⟩ fr.1 ur);have jL:=aa (fun W (E:J w W) (x z:Int) (uC:9<=o.kind) (hz:o.kind<=12)=>abp (h.below E) ni L {o with i1:=x,i2:=z} ⟨v.r,v.made,v.a,v.b,v.key⟩ (pD.ae E) uC hz);have sY:=aa (fun W (E:J w W) (x z:Int) (Tw:13<=o.kind)=>abn (h.below E) L {o with i1:=x,i2:=z} cv Tw fr.2);obtain⟨t,p,rfl,kC,gM,aD⟩:=bm h.bo;obtain⟨U,rfl⟩:=aD _ L;have y0:w.cell? (H a)=some (.slice (some (H U)) i.length p):=by simp[World.cell?,h.y]
 have e7:=abr h.bo rfl _ L;have k5:=aa N;have gd:=aN N;obtain⟨at',N3,rfl,PM,hM,N4⟩:=bm Q;unfold maxLen at hM;have t2:w.cell? (K (i[wj o.r i.length]'(yV _ I)) 2)=some (.slice at' B.length N3):=(EM N).2.2;have N5:=ae D.o y0;have IA:=ae D.o e7;have t2':=ae D.o t2;have l7:=aa y0;have lP:=aa e7;have iy:=aa t2;have au:=yV o.made R.2;have wR:=aa (Tt o.made B.length v.made.1 v.made.2 R.2 (by omega));obtain⟨gt,rfl⟩:=N4 _ au;obtain⟨jx,q1⟩:=eE.cells Q rfl _ au;have rH:=aa jx;have o3:=aa q1;have ly:=aqd w _ jx;simp only at ly;generalize hpj:wj o.made B.length=F at *;generalize sl:(B[F]).1=x at *;generalize xx:(B[F]).2=z at *;have ao3:(0:Int)<=(F:Int):=aqc _;have ao4:(F:Int)<(B.length:Int):=by omega
 have X:=aa ((apY w.heap.size w).alloc (apX _) (.cells #[A o.kind,A o.r,A o.c,A o.d,A x,A z,A o.made,.string o.key,A o.a,A o.b,.bool o.yes] 87)).drew.drew;have cB:=aa (bI w (.cells #[A o.kind,A o.r,A o.c,A o.d,A x,A z,A o.made,.string o.key,A o.a,A o.b,.bool o.yes] 87));have nx:0<o.made:=R.1;have oE:(0:Int)<(B.length:Int):=by omega
 generalize i[wj o.r i.length]'(yV _ I)=aI at *;generalize wj o.r i.length=Y at *;have amH:(0:Int)<=(Y:Int):=aqc _;have amI:(Y:Int)<(i.length:Int):=by omega
 have hz0:¬((i.length:Int)=0):=by omega
 have hz1:¬(i.length=0):=by omega
 have df:¬(o.kind=1):=by omega
 have c3:¬(o.kind<2):=by omega
 have hE:¬(22<o.kind):=by omega
 clear h aD Q N4 N v;go_enter func35,ntmps35;go_wp2;go_region_held3 (fun W=>W.cell? (H a)=some (.slice (some (H U)) i.length p)/\W.cell? (V w 1)=some (A o.r)/\W.cell? (K U Y)=some (Z aI)) (first |exact⟨N5,(Kp aP.o).2.1,IA⟩)
  (first |(go_at_call 67;refine(N2.o _).mono ?_;rintro g P ⟨rfl,rfl⟩))
 go_wp2;go_region_held3 (fun W=>W.cell? (K aI 2)=some (.slice (some (H gt)) B.length N3)/\W.cell? (V w 6)=some (A o.made)/\W.cell? (K gt (F*2))=some (A x)/\W.cell? (K gt (F*2+1))=some (A z)) (first |exact⟨ae D.o.drew iy.o,(Kp (W:=(w.alloc (.cells #[A o.kind,A o.r,A o.c,A o.d,A o.i1,A o.i2,A o.made,.string o.key,A o.a,A o.b,.bool o.yes] 87)).drew) aP.o).2.2.2.2.2.2.1,ae D.o.drew rH.o,ae D.o.drew o3.o⟩|exact⟨ae X.o iy.o,(Kp (W:=(w.alloc (.cells #[A o.kind,A o.r,A o.c,A o.d,A x,A z,A o.made,.string o.key,A o.a,A o.b,.bool o.yes] 87)).drew.drew) cB.o).2.2.2.2.2.2.1,ae X.o rH.o,ae X.o o3.o⟩)
  (first |(go_at_call 67;refine(wR.o _).mono ?_;rintro g P ⟨rfl,rfl⟩))
 by_cases Kq:o.kind<=8
 ·go_wp2_with (first
   |(go_at_call 68;refine(dD.o _ (((apY w.heap.size w).alloc (apX _) _).drew.drew) x z Kq).mono ?_;rintro g P ⟨rfl,C⟩;have M:=aa C;clear C))
  go_ret
  exact⟨rfl,M.o.from (((apY w.heap.size w).alloc (apX _) _).drew.drew) S⟩
 by_cases Kr:o.kind<=12
 ·go_wp2_with (first
   |(go_at_call 69;refine(jL.o _ (((apY w.heap.size w).alloc (apX _) _).drew.drew) x z (by omega) Kr).mono ?_;rintro g P ⟨rfl,C⟩;have M:=aa C;clear C))
  go_ret
  exact⟨rfl,M.o.from (((apY w.heap.size w).alloc (apX _) _).drew.drew) S⟩
 go_wp2_with (first
  |(go_at_call 70;refine(sY.o _ (((apY w.heap.size w).alloc (apX _) _).drew.drew) x z (by omega)).mono ?_;rintro g P ⟨rfl,C⟩;have M:=aa C;clear C))
 go_ret
 exact⟨rfl,M.o.from (((apY w.heap.size w).alloc (apX _) _).drew.drew) S⟩
theorem amJ{base bQ lc w F}(h:jH base a l n u bQ i k m lc e f c w)(X:c<2000000000000)(o:jX)(x:p8 o)(pD:Pow w)(cv:EW q)(ck:q<=22)(Y:2<=o.kind/\o.kind<=q)(E:0<i.length)(P:w.heap[i[wj o.r i.length]'(yV _ E)]?=some (.cells #[Z r,Z s,j] 135 (0,0)))(eQ:gA 0 w j F)(N1:¬(0<o.made/\0<F.length)):
  O 35 #[Z a,.agg #[A o.kind,A o.r,A o.c,A o.d,A o.i1,A o.i2,A o.made,.string o.key,A o.a,A o.b,.bool o.yes]] w fun g w'=>g=.returned (.bool true)/\jc base a (c+1) w w':=by
 have R:=aa ((apY w.heap.size w).alloc (apX _) (.cells #[A o.kind,A o.r,A o.c,A o.d,A o.i1,A o.i2,A o.made,.string o.key,A o.a,A o.b,.bool o.yes] 87));have aP:=aa (bI w (.cells #[A o.kind,A o.r,A o.c,A o.d,A o.i1,A o.i2,A o.made,.string o.key,A o.a,A o.b,.bool o.yes] 87));have C:=h.bs;have yP:=h.wk;have xl:=(h.a1 a h.me).2;have JL:a≠w.heap.size:=by omega
 have I:=yV o.r E;have N2:=aa (Tt o.r i.length x.r.1 x.r.2 E (by omega));have dD:=aa (fun W (D:J w W) (L M:Int) (ur:o.kind<=8)=>abo (h.below D) X I {o with i1:=L,i2:=M} ⟨x.r,x.made,x.a,x.b,x.key⟩ Y.1 ur);have jL:=aa (fun W (D:J w W) (L M:Int) (uC:9<=o.kind) (hz:o.kind<=12)=>abp (h.below D) X I {o with i1:=L,i2:=M} ⟨x.r,x.made,x.a,x.b,x.key⟩ (pD.ae D) uC hz);have sY:=aa (fun W (D:J w W) (L M:Int) (Tw:13<=o.kind)=>abn (h.below D) I {o with i1:=L,i2:=M} cv Tw Y.2);obtain⟨t,p,rfl,kC,gM,aD⟩:=bm h.bo;obtain⟨N,rfl⟩:=aD _ I;have y0:w.cell? (H a)=some (.slice (some (H N)) i.length p):=by simp[World.cell?,h.y]
 have e7:=abr h.bo rfl _ I;have k5:=aa P;have gd:=aN P;obtain⟨at',N3,rfl,PM,hM,N4⟩:=bm eQ;unfold maxLen at hM;have t2:w.cell? (K (i[wj o.r i.length]'(yV _ E)) 2)=some (.slice at' F.length N3):=(EM P).2.2;have N5:=ae R.o y0;have IA:=ae R.o e7;have t2':=ae R.o t2;have l7:=aa y0;have lP:=aa e7;have iy:=aa t2;generalize i[wj o.r i.length]'(yV _ E)=aI at *;generalize wj o.r i.length=Q at *;have amH:(0:Int)<=(Q:Int):=aqc _;have amI:(Q:Int)<(i.length:Int):=by omega
 have hz0:¬((i.length:Int)=0):=by omega
 have hz1:¬(i.length=0):=by omega
 have df:¬(o.kind=1):=by omega
 have c3:¬(o.kind<2):=by omega
 have hE:¬(22<o.kind):=by omega
 clear h aD eQ N4 P x;by_cases nx:0<o.made
 ·have oE:¬((0:Int)<(F.length:Int)):=by omega
  have mw:F.length=0:=by omega
  go_enter func35,ntmps35;go_wp2;go_region_held3 (fun W=>W.cell? (H a)=some (.slice (some (H N)) i.length p)/\W.cell? (V w 1)=some (A o.r)/\W.cell? (K N Q)=some (Z aI)) (first |exact⟨N5,(Kp aP.o).2.1,IA⟩)
   (first |(go_at_call 67;refine(N2.o _).mono ?_;rintro g B ⟨rfl,rfl⟩))
  by_cases S:o.kind<=8
  ·go_wp2_with (first
    |(go_at_call 68;refine(dD.o _ (((apY w.heap.size w).alloc (apX _) _).drew) o.i1 o.i2 S).mono ?_;rintro g B ⟨rfl,v⟩;have z:=aa v;clear v))
   go_ret
   exact⟨rfl,z.o.from (((apY w.heap.size w).alloc (apX _) _).drew) C⟩
  by_cases U:o.kind<=12
  ·go_wp2_with (first
    |(go_at_call 69;refine(jL.o _ (((apY w.heap.size w).alloc (apX _) _).drew) o.i1 o.i2 (by omega) U).mono ?_;rintro g B ⟨rfl,v⟩;have z:=aa v;clear v))
   go_ret
   exact⟨rfl,z.o.from (((apY w.heap.size w).alloc (apX _) _).drew) C⟩
  go_wp2_with (first
   |(go_at_call 70;refine(sY.o _ (((apY w.heap.size w).alloc (apX _) _).drew) o.i1 o.i2 (by omega)).mono ?_;rintro g B ⟨rfl,v⟩;have z:=aa v;clear v))
  go_ret
  exact⟨rfl,z.o.from (((apY w.heap.size w).alloc (apX _) _).drew) C⟩
 go_enter func35,ntmps35;go_wp2;go_region_held3 (fun W=>W.cell? (H a)=some (.slice (some (H N)) i.length p)/\W.cell? (V w 1)=some (A o.r)/\W.cell? (K N Q)=some (Z aI)) (first |exact⟨N5,(Kp aP.o).2.1,IA⟩)
  (first |(go_at_call 67;refine(N2.o _).mono ?_;rintro g B ⟨rfl,rfl⟩))
 by_cases S:o.kind<=8
 ·go_wp2_with (first
   |(go_at_call 68;refine(dD.o _ (((apY w.heap.size w).alloc (apX _) _).drew) o.i1 o.i2 S).mono ?_;rintro g B ⟨rfl,v⟩;have z:=aa v;clear v))
  go_ret
  exact⟨rfl,z.o.from (((apY w.heap.size w).alloc (apX _) _).drew) C⟩
 by_cases U:o.kind<=12
 ·go_wp2_with (first
   |(go_at_call 69;refine(jL.o _ (((apY w.heap.size w).alloc (apX _) _).drew) o.i1 o.i2 (by omega) U).mono ?_;rintro g B ⟨rfl,v⟩;have z:=aa v;clear v))
  go_ret
  exact⟨rfl,z.o.from (((apY w.heap.size w).alloc (apX _) _).drew) C⟩
 go_wp2_with (first
  |(go_at_call 70;refine(sY.o _ (((apY w.heap.size w).alloc (apX _) _).drew) o.i1 o.i2 (by omega)).mono ?_;rintro g B ⟨rfl,v⟩;have z:=aa v;clear v))
 go_ret
 exact⟨rfl,z.o.from (((apY w.heap.size w).alloc (apX _) _).drew) C⟩
end
section
open Go.RowKit Tryz
theorem amK{base i v y z B j C D E F R k w f}(h:jH base i v y z B j C D E F R k w)(l:k<2000000000000)(o:jX)(n:p8 o)(p:Pow w)(q:EW f)(s:f<=22)(t:1<=o.kind/\o.kind<=f):
  O 35 #[Z i,.agg #[A o.kind,A o.r,A o.c,A o.d,A o.i1,A o.i2,A o.made,.string o.key,A o.a,A o.b,.bool o.yes]] w fun e I=>e=.returned (.bool true)/\jc base i (k+1) w I:=by
 by_cases L:o.kind=1
 ·exact amE h l o L
 by_cases M:j.length=0
 ·exact amF h o ⟨by omega,by omega⟩ M
 have m:0<j.length:=by omega
 obtain⟨x,r,Q,told,S,U,N,W,P,X,g⟩:=h.eV _ (yV o.r m);by_cases u:0<o.made/\0<told.length
 ·exact amG h l o n p q s ⟨by omega,t.2⟩ m g.blk g.told u
 exact amJ h l o n p q s ⟨by omega,t.2⟩ m g.blk g.told u
end
end Go.Proofs.YtnkpogjiiohapaaGreatDoor
