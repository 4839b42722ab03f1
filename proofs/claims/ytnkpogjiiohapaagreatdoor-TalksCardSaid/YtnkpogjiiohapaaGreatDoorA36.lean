/- Our own text. -/
import Derived.Deep.DeepCutAuto
import Derived.Deep.RegionHeld3
import Derived.Deep.DrawnRows
import Derived.Test.YtnkpogjiiohapaaGreatDoorA35
set_option linter.unusedSimpArgs false
set_option linter.unusedVariables false
set_option maxRecDepth 1000000
set_option maxHeartbeats 8000000
namespace Go.Proofs.YtnkpogjiiohapaaGreatDoor
open Go.RowKit Tryz
variable {a e f k u:Nat}{b j:TypeId}{d m:World}{h:Array Value}{i:Nat->Value}{l q r s:Value}{n:List Nat}
def kZ (g:Nat):List Value:=[.slice (some (H g)) 4 4]
structure Nm (e eZ:TypeId) (k:Nat) (df:Array Value) (w:World) (v:Value) (n cf:Nat) (U:Nat->Value) (W:World):Prop where
 zero:U 0=v
 row:W.heap[cf]?=some (.cells #[U 0,U 1,U 2,U 3] eZ (0,0))
 z:W.heap[w.heap.size]?=some (.cells df e (0,0))
 s:∀i,i<4->Shape e k W (U i) (n+i)
 b:∀i,i<4->∀g,(U i).ownBlock=some g->v.ownBlock=some g\/w.heap.size<g
 t:aP (fun j=>v.ownBlock=some j) w W
 gl:w.heap.size<cf
theorem Nm.cell{w v W}(c:Nm j b f h w v k e i W)(d:a<4):W.cell? (K e a)=some (i a):=by
 rw[cell_of_row W e a _ b (0,0) c.row]
 match a,d with
 |0,_=>rfl
 |1,_=>rfl
 |2,_=>rfl
 |3,_=>rfl
theorem Nm.form(p:Nm b j f h d l e k i m)(r:a<4):∃o c,i a=.slice o (e+a) c/\(∀n,n<e+a->∃g,o=some (H g)):=by
 obtain⟨w,t⟩:=p.s a r;rcases t.2 with⟨q,u⟩|⟨g,v,x,q,_⟩
 ·exact⟨none,0,by rw[u];exact q,fun n y=>by omega⟩
 ·exact⟨_,v,q,fun n _=>⟨g,rfl⟩⟩
theorem Nm.put{g p k w v}(c:Nm g p k h w v u f i d)(C:∀a,v.ownBlock=some a->a<w.heap.size)(D:p≠g)(r:e<4)(x:(i e).ownBlock=some a)(y:∀q,q≠a->m.heap[q]?=d.heap[q]?)(E:pU g d m)(o:m.os=d.os/\m.tape=d.tape/\m.output=d.output/\d.heap.size<=m.heap.size):Nm g p k h w v u f i m:=by
 have F:f≠a:=fun l=>by
  subst l;obtain⟨P,I⟩:=(c.s e r).type x;exact D (bz c.row I)
 have L:w.heap.size≠a:=fun l=>by
  subst l;rcases c.b e r _ x with n|n
  ·have :=C _ n;omega
  ·omega
 refine⟨c.zero,(y f F).trans c.row,(y _ L).trans c.z,fun j M=>(c.s j M).same E,c.b,⟨o.1.trans c.t.os,o.2.1.trans c.t.tape,o.2.2.1.trans c.t.output,aoS c.t.size o.2.2.2,fun q N B=> ?_⟩,c.gl⟩;have :q≠a:=fun l=>by
  subst l;rcases c.b e r _ x with n|n
  ·exact B n
  ·omega
 exact(y q this).trans (c.t.other q N B)
structure vy (e eZ:TypeId) (k:Nat) (df:Array Value) (w:World) (v:Value) (n cf:Nat) (U:Nat->Value) (i j:Nat) (W:World):Prop where
 gg:Nm e eZ k df w v n cf U W
 full:∀lk,lk<i->j3 k df.toList W (U lk) (n+lk)
 part:j3 k df.toList W (U i) j
theorem Ab{g:Nat}:∀(a:List Value) (o:Nat) (W:World) (q:Nat),q≠g->(W.setCells g o a).heap[q]?=W.heap[q]?
 |[],_,_,_,_=>rfl
 |v::r,o,W,q,h=>(Ab r (o+1) (W.setCell (K g o) v) q h).trans (dI h)
theorem aaA{e:TypeId}{g:Nat}:∀(a:List Value) (o:Nat) (W:World),pU e W (W.setCells g o a)
 |[],_,W=>pU.refl e W
 |v::r,o,W=>(pU.setCell W g o v).trans (aaA r (o+1) (W.setCell (K g o) v))
theorem aaB{g:Nat}:∀(a:List Value) (o:Nat) (W:World),(W.setCells g o a).os=W.os/\(W.setCells g o a).tape=W.tape/\(W.setCells g o a).output=W.output/\W.heap.size<=(W.setCells g o a).heap.size
 |[],_,W=>⟨rfl,rfl,rfl,aoP _⟩
 |v::r,o,W=>by
  have h:=aaB (g:=g) r (o+1) (W.setCell (K g o) v);have b:(W.setCell (K g o) v).heap.size=W.heap.size:=by simp[World.setCell]
  exact⟨h.1,h.2.1,h.2.2.1,aoS (Nat.le_of_eq b.symm) h.2.2.2⟩
theorem akR{b:List Value}(n:b.length=a){g j:Nat}{W:World}(d:∀q,q<a->∃u,W.cell? (K g (j*a+q))=some u):Sx a b g j W (W.setCells g (j*a) b):=by
 refine⟨fun q x e=> ?_,fun p o f=> ?_⟩
 ·obtain⟨k,l⟩:=aqv.1 e
  rw[World.cell?_setCells_in g b (j*a) W (fun i r=>by obtain⟨u,m⟩:=d i (by omega);simp[m]) q k,l]
 ·refine World.cell?_setCells_out g b (j*a) W _ fun c _=> ?_
  simp only at c⊢;rcases f with h|h|h
  ·exact absurd c h
  ·exact .inl h
  ·exact .inr (by omega)
theorem vy.next{e v j W}(l:vy e b f h d v k u i a j W)(w:∀g,v.ownBlock=some g->g<d.heap.size)(x:b≠e)(y:h.size=f)(n:a<4){g c:Nat}(o:i a=.slice (some (H g)) (k+a) c)(z:j<k+a):
  vy e b f h d v k u i a (j+1) (W.setCells g (j*f) h.toList):=by
 have p:=l.gg.s a n;rw[o]at p;have m:h.toList.length=f:=by simpa using y
 have r:=akR m (g:=g) (j:=j) (W:=W) fun q B=>p.cell z B
 have t:(i a).ownBlock=some g:=by rw[o];rfl
 exact⟨l.gg.put w x n t (Ab _ _ W) (aaA _ _ W) (aaB _ _ W),fun C D=>(l.full C D).put m r,l.part.more m t r⟩
structure qB (e eZ:TypeId) (k:Nat) (df:Array Value) (n cf:Nat) (U:Nat->Value) (W:World):Prop where
 row:W.heap[cf]?=some (.cells #[U 0,U 1,U 2,U 3] eZ (0,0))
 s:∀i,i<4->Shape e k W (U i) (n+i)
 MZ:∀i,i<4->j3 k df.toList W (U i) (n+i)
theorem Shape.af{e k w v n}{w':World}(h:Shape e k w v n)(a:∀g,v.ownBlock=some g->w'.heap[g]?=w.heap[g]?):Shape e k w' v n:=by
 obtain⟨b,h⟩:=h;exact⟨b,b4 h a⟩
theorem qB.af{e d k f n b U W}{c:World}(h:qB e d k f n b U W)(l:c.heap[b]?=W.heap[b]?)(j:∀i,i<4->∀g,(U i).ownBlock=some g->c.heap[g]?=W.heap[g]?):qB e d k f n b U c:=
 ⟨l.trans h.row,fun i a=>(h.s i a).af (j i a),fun i a=>(h.MZ i a).af (j i a)⟩
theorem vy.drew{e a k c w v n d U i j W}(h:vy e a k c w v n d U i j W):vy e a k c w v n d U i j W.drew:=⟨⟨h.gg.zero,h.gg.row,h.gg.z,h.gg.s,h.gg.b,h.gg.t.Vd,h.gg.gl⟩,h.full,h.part⟩
theorem akS{c:Value}(h:d.heap[a]?=some (.cells #[l,c,q,r] b (0,0))):(d.setCell (K a 1) s).heap[a]?=some (.cells #[l,s,q,r] b (0,0)):=by
 simp[World.setCell,aqw,h]
def Ac (e j l:TypeId) (k:Nat) (m:Array Value) (w:World) (d:Nat) (v f:Value) (h:List Nat) (n:Nat) (P:Value->Array Value) (a:World):Prop:=
 ∃b c U,a.heap[d]?=some (.cells (P b) 84 (0,0))/\a.ownsRow 0 l 1 b (h.length+1) ((h++[c]).flatMap kZ)/\aP (fun q=>q=d\/v.ownBlock=some q\/f.ownBlock=some q) w a/\iT w f b/\qB e j k m n c U a/\
  w.heap.size<c/\∀i,i<4->∀g,(U i).ownBlock=some g->v.ownBlock=some g\/w.heap.size<g
theorem Sz{o p q r:Nat}(t:d.heap[o]?=some (.cells #[l,.slice (some (H f)) (a+1) p,.slice (some (H k)) (a+2) q,.slice (some (H u)) (a+3) r] j (0,0)))(v:d.heap[m.heap.size]?=some (.cells h b (0,0)))(w:Shape b e d l a)(x:Shape b e d (.slice (some (H f)) (a+1) p) (a+1))(y:Shape b e d (.slice (some (H k)) (a+2) q) (a+2))(z:Shape b e d (.slice (some (H u)) (a+3) r) (a+3))(B:l.ownBlock=some f\/m.heap.size<f)(C:l.ownBlock=some k\/m.heap.size<k)(D:l.ownBlock=some u\/m.heap.size<u)(E:aP (fun c=>l.ownBlock=some c) m d)(F:m.heap.size<o):∃U,Nm b j e h m l a o U d:=by
 refine⟨fun i=>if i=0 then l else if i=1 then .slice (some (H f)) (a+1) p else if i=2 then .slice (some (H k)) (a+2) q else .slice (some (H u)) (a+3) r,rfl,t,v,fun i s=> ?_,fun i s g n=> ?_,E,F⟩
 ·match i,s with
  |0,_=>exact w
  |1,_=>exact x
  |2,_=>exact y
  |3,_=>exact z
 ·match i,s with
  |0,_=>exact .inl n
  |1,_=>simp[Value.ownBlock]at n;subst n;exact B
  |2,_=>simp[Value.ownBlock]at n;subst n;exact C
  |3,_=>simp[Value.ownBlock]at n;subst n;exact D
theorem akT{cV bQ:Value}{c:Option Addr}(az:d.heap[f]?=some (.cells #[r,l,cV,bQ] 84 (0,0)))(nx:n.length<2000000000000)(hn:a<2000000000000)(au:d.ownsRow 0 138 1 l n.length (n.flatMap kZ))(hl:Shape 36 2 d (.slice c a e) a):
  O 106 #[.pointer (some (K f 1)),.slice c a e] d fun m w'=>m=.returned (.tuple #[])/\Ac 36 65 138 2 #[A (-7070),A n.length] d f (.slice c a e) l n a (fun x=> #[r,x,cV,bQ]) w':=by
 obtain⟨F,ac,rfl,nx,wI,qC⟩:=bp au;have y1:d.cell? (K f 1)=some (.slice F n.length ac):=by simp[World.cell?,az]
 have X:=aa hl;have tl:=aa hl;have hv:=aa az;have bR:=aa au;clear az au qC;have tw:=aa (show ∀q,d.heap.size<=q->¬((Value.slice c a e).ownBlock=some q) from fun q v E=>by have :=hl.lt q E;omega);have I:=aa (bL d (.cells #[A (-7070),A n.length] 36));clear hl;go_enter func106,ntmps106;go_wp2_with fail
 go_cut [5] (fun p wc=>∃w,p=.slice (some (H w)) 4 4/\∃U,Nm 36 65 2 #[A (-7070),A n.length] d (.slice c a e) a w U wc)
 case first =>
  go_region_held3 (fun W=>W.cell? (V d 0)=some (A (-7070))/\W.cell? (V d 1)=some (A n.length)) (first |exact bh (t:=36) (by(repeat(first |exact L.o|exact R.o|exact S.o|exact I.o|exact mY (by first |rfl|(simp;done)|(simp;omega))|refine(ec (by first |omega|(simp;done)|(simp;omega))).trans ?_|refine(M.o _ (by first |omega|(simp;done)|(simp;omega)) (by first |omega|(simp;done)|(simp;omega))).trans ?_|refine(N.o _ (by first |omega|(simp;done)|(simp;omega)) (by first |omega|(simp;done)|(simp;omega))).trans ?_|refine(P.o _ (by first |omega|(simp;done)|(simp;omega)) (by first |omega|(simp;done)|(simp;omega))).trans ?_))))
   (first
    |(refine Gl 2 16 65 36 (.agg #[A 0,A 0]) (by kernel_rfl) underlying65 rfl (by omega) (by rfl) (.tmp 15) (.tmp 17) (by rfl) (.slice c a e) a (by rfl) (X.o.same (b5.s (by(repeat(first |exact Y.o|exact fI.o|exact b5.refl _ _ _|refine b5.alloc ?_ _|refine b5.drew ?_)):b5 36 (.slice c a e) d _))) _ 1 1 (by omega) (by rfl) (cs:= #[A (-7070),A n.length]) (by(repeat(first |exact L.o|exact R.o|exact S.o|exact I.o|exact mY (by first |rfl|(simp;done)|(simp;omega))|refine(ec (by first |omega|(simp;done)|(simp;omega))).trans ?_|refine(M.o _ (by first |omega|(simp;done)|(simp;omega)) (by first |omega|(simp;done)|(simp;omega))).trans ?_|refine(N.o _ (by first |omega|(simp;done)|(simp;omega)) (by first |omega|(simp;done)|(simp;omega))).trans ?_|refine(P.o _ (by first |omega|(simp;done)|(simp;omega)) (by first |omega|(simp;done)|(simp;omega))).trans ?_))) (by rfl) (by simp[Value.oneCell']) (by omega) (by unfold maxLen;omega) ?_;intro b1 a6 w1 hD e7 aq;have hz1:=e7.t.size;(try simp at hz1);have iG:=aa hD;have fI:=aa (b5.trans (by(repeat(first |exact Y.o|exact fI.o|exact b5.refl _ _ _|refine b5.alloc ?_ _|refine b5.drew ?_)):b5 36 (.slice c a e) d _) e7);have P:=aa (fun q v (gF:d.heap.size<=q)=>e7.t.other q v (tw.o q gF));have S:=aa (show w1.heap[d.heap.size]?=some (.cells #[A (-7070),A n.length] 36 (0,0)) from(P.o _ (by first |omega|(simp;done)|(simp;omega)) (aoP _)).trans (by(repeat(first |exact L.o|exact R.o|exact S.o|exact I.o|exact mY (by first |rfl|(simp;done)|(simp;omega))|refine(ec (by first |omega|(simp;done)|(simp;omega))).trans ?_|refine(M.o _ (by first |omega|(simp;done)|(simp;omega)) (by first |omega|(simp;done)|(simp;omega))).trans ?_|refine(N.o _ (by first |omega|(simp;done)|(simp;omega)) (by first |omega|(simp;done)|(simp;omega))).trans ?_|refine(P.o _ (by first |omega|(simp;done)|(simp;omega)) (by first |omega|(simp;done)|(simp;omega))).trans ?_))));have eS:(Value.slice c a e).ownBlock=some b1\/d.heap.size<b1:=(aq.imp id (fun E=>by(try simp at E);omega));clear hD e7 aq)
    |(refine Gl 2 16 65 36 (.agg #[A 0,A 0]) (by kernel_rfl) underlying65 rfl (by omega) (by rfl) (.tmp 19) (.tmp 22) (by rfl) (.slice c a e) a (by rfl) (X.o.same (b5.s (by(repeat(first |exact Y.o|exact fI.o|exact b5.refl _ _ _|refine b5.alloc ?_ _|refine b5.drew ?_)):b5 36 (.slice c a e) d _))) _ 2 2 (by omega) (by rfl) (cs:= #[A (-7070),A n.length,A (-7070),A n.length]) (by(repeat(first |exact L.o|exact R.o|exact S.o|exact I.o|exact mY (by first |rfl|(simp;done)|(simp;omega))|refine(ec (by first |omega|(simp;done)|(simp;omega))).trans ?_|refine(M.o _ (by first |omega|(simp;done)|(simp;omega)) (by first |omega|(simp;done)|(simp;omega))).trans ?_|refine(N.o _ (by first |omega|(simp;done)|(simp;omega)) (by first |omega|(simp;done)|(simp;omega))).trans ?_|refine(P.o _ (by first |omega|(simp;done)|(simp;omega)) (by first |omega|(simp;done)|(simp;omega))).trans ?_))) (by rfl) (by simp[Value.oneCell']) (by omega) (by unfold maxLen;omega) ?_;intro a2 bd w2 eu gh aU;have hz2:=gh.t.size;(try simp at hz2);replace iG:=aa (iG.o.same ((b5.s (by(repeat(first |exact b5.refl _ _ _|refine b5.alloc ?_ _|refine b5.drew ?_)):b5 36 (.slice c a e) w1 _)).trans gh.s));have my:=aa eu;have Y:=aa (b5.trans (by(repeat(first |exact Y.o|exact fI.o|exact b5.refl _ _ _|refine b5.alloc ?_ _|refine b5.drew ?_)):b5 36 (.slice c a e) d _) gh);have N:=aa (fun q v (gF:d.heap.size<=q)=>gh.t.other q v (tw.o q gF));have R:=aa (show w2.heap[d.heap.size]?=some (.cells #[A (-7070),A n.length] 36 (0,0)) from(N.o _ (by first |omega|(simp;done)|(simp;omega)) (aoP _)).trans (by(repeat(first |exact L.o|exact R.o|exact S.o|exact I.o|exact mY (by first |rfl|(simp;done)|(simp;omega))|refine(ec (by first |omega|(simp;done)|(simp;omega))).trans ?_|refine(M.o _ (by first |omega|(simp;done)|(simp;omega)) (by first |omega|(simp;done)|(simp;omega))).trans ?_|refine(N.o _ (by first |omega|(simp;done)|(simp;omega)) (by first |omega|(simp;done)|(simp;omega))).trans ?_|refine(P.o _ (by first |omega|(simp;done)|(simp;omega)) (by first |omega|(simp;done)|(simp;omega))).trans ?_))));have iY:(Value.slice c a e).ownBlock=some a2\/d.heap.size<a2:=(aU.imp id (fun E=>by(try simp at E);omega));clear eu gh aU)
    |(refine Gl 2 16 65 36 (.agg #[A 0,A 0]) (by kernel_rfl) underlying65 rfl (by omega) (by rfl) (.tmp 24) (.tmp 28) (by rfl) (.slice c a e) a (by rfl) (X.o.same (b5.s (by(repeat(first |exact Y.o|exact fI.o|exact b5.refl _ _ _|refine b5.alloc ?_ _|refine b5.drew ?_)):b5 36 (.slice c a e) d _))) _ 3 3 (by omega) (by rfl) (cs:= #[A (-7070),A n.length,A (-7070),A n.length,A (-7070),A n.length]) (by(repeat(first |exact L.o|exact R.o|exact S.o|exact I.o|exact mY (by first |rfl|(simp;done)|(simp;omega))|refine(ec (by first |omega|(simp;done)|(simp;omega))).trans ?_|refine(M.o _ (by first |omega|(simp;done)|(simp;omega)) (by first |omega|(simp;done)|(simp;omega))).trans ?_|refine(N.o _ (by first |omega|(simp;done)|(simp;omega)) (by first |omega|(simp;done)|(simp;omega))).trans ?_|refine(P.o _ (by first |omega|(simp;done)|(simp;omega)) (by first |omega|(simp;done)|(simp;omega))).trans ?_))) (by rfl) (by simp[Value.oneCell']) (by omega) (by unfold maxLen;omega) ?_;intro a3 bV w3 lY fk a8;have mM:=fk.t.size;(try simp at mM);replace iG:=aa (iG.o.same ((b5.s (by(repeat(first |exact b5.refl _ _ _|refine b5.alloc ?_ _|refine b5.drew ?_)):b5 36 (.slice c a e) w2 _)).trans fk.s));replace my:=aa (my.o.same ((b5.s (by(repeat(first |exact b5.refl _ _ _|refine b5.alloc ?_ _|refine b5.drew ?_)):b5 36 (.slice c a e) w2 _)).trans fk.s));have e5:=aa lY;have ht:=aa (b5.trans (by(repeat(first |exact Y.o|exact fI.o|exact b5.refl _ _ _|refine b5.alloc ?_ _|refine b5.drew ?_)):b5 36 (.slice c a e) d _) fk);have M:=aa (fun q v (gF:d.heap.size<=q)=>fk.t.other q v (tw.o q gF));have L:=aa (show w3.heap[d.heap.size]?=some (.cells #[A (-7070),A n.length] 36 (0,0)) from(M.o _ (by first |omega|(simp;done)|(simp;omega)) (aoP _)).trans (by(repeat(first |exact L.o|exact R.o|exact S.o|exact I.o|exact mY (by first |rfl|(simp;done)|(simp;omega))|refine(ec (by first |omega|(simp;done)|(simp;omega))).trans ?_|refine(M.o _ (by first |omega|(simp;done)|(simp;omega)) (by first |omega|(simp;done)|(simp;omega))).trans ?_|refine(N.o _ (by first |omega|(simp;done)|(simp;omega)) (by first |omega|(simp;done)|(simp;omega))).trans ?_|refine(P.o _ (by first |omega|(simp;done)|(simp;omega)) (by first |omega|(simp;done)|(simp;omega))).trans ?_))));have hK:(Value.slice c a e).ownBlock=some a3\/d.heap.size<a3:=(a8.imp id (fun E=>by(try simp at E);omega));clear lY fk a8))
  all_goals(go_wp2_with fail;go_meet)
  all_goals exact⟨_,rfl,Sz (bL w3 _) ((ec (by omega)).trans L.o) (X.o.same (ht.o.alloc _).s) (iG.o.same ((b5.refl 36 (.slice c a e) w3).alloc _).s) (my.o.same ((b5.refl 36 (.slice c a e) w3).alloc _).s) (e5.o.same ((b5.refl 36 (.slice c a e) w3).alloc _).s) eS iY hK (ht.o.alloc _).t (by omega)⟩
 case rest=>
  obtain⟨w,rfl,U,vc⟩:=hcut;have yk:=aa X.o.lt;clear I tw X;go_wp2;go_loopw [6] (fun i wr=>∃k:Nat,k<=4/\i=A k/\vy 36 65 2 #[A (-7070),A n.length] d (.slice c a e) a w U k 0 wr) (fun i _=>4-(intOf i).toNat)
  case atStart=>exact⟨0,by omega,rfl,vc,fun lk h=>absurd h (ap5 _),j3.zero _ _ _ _⟩
  case round=>
   obtain⟨k,hk,rfl,mT⟩:=hrel;obtain⟨B,rZ⟩:∃B,B=wr:=⟨_,rfl⟩;subst rZ;by_cases aE:k<4
   ·obtain⟨Jk,Ef,hu,hX⟩:=mT.gg.form aE
    have pA:=aa hX;clear hX;have Jl:=aa mT;clear mT vc;have h5:(0:Int)<=(k:Int):=ao0 _;have ql:(k:Int)<4:=by omega
    go_wp2;go_loopw [7] (fun i hd=>∃j:Nat,j<=a+k/\i=A j/\vy 36 65 2 #[A (-7070),A n.length] d (.slice c a e) a w U k j hd) (fun i _=>a+k-(intOf i).toNat)
    case atStart=>exact⟨0,aoR _,rfl,Jl.o⟩
    case round=>
     obtain⟨j,ar,rfl,v⟩:=hrel;have eJ:=v.gg.cell aE;rw[hu]at eJ;by_cases ix:j<a+k
     ·obtain⟨g,rfl⟩:=pA.o j ix
      have gI:=v.gg.s k aE;rw[hu]at gI;obtain⟨u0,t0⟩:=gI.cell (q:=0) ix (by omega);obtain⟨u1,t1⟩:=gI.cell (q:=1) ix (by omega);have an2:=gI.Ck;obtain⟨z0,z1⟩:=bh v.gg.z;have Aa:d.heap.size≠g:=fun C=>by
       rcases v.gg.b k aE g (by rw[hu];rfl) with h1|h1
       ·have :=yk.o _ h1;omega
       ·omega
      have j8:=aa v;clear v;simp only[apL]at t0;have Ap:(0:Int)<=(j:Int):=ao0 _;have r6:(j:Int)<((a+k:Nat):Int):=by omega
      have mv:w≠g:=fun C=>by
       subst C;obtain⟨Q,y⟩:=gI.type rfl;exact absurd (bz j8.o.gg.row y) (by decide)
      clear gI;go_wp2_with fail
      go_region_held3 (fun W=>W.cell? (K w k)=some (.slice (some (H g)) (a+k) Ef)/\W.cell? (V d 0)=some (A (-7070))/\W.cell? (V d 1)=some (A n.length)) (first |exact⟨eJ,z0,z1⟩|exact⟨(apW (Ab [A (-7070),A n.length] (j*2) wr w mv)).trans eJ,(apW (Ab [A (-7070),A n.length] (j*2) wr d.heap.size Aa)).trans z0,(apW (Ab [A (-7070),A n.length] (j*2) wr d.heap.size Aa)).trans z1⟩) (fail)
      all_goals go_wp2
      all_goals go_roundw
      case rel=>exact⟨j+1,by omega,by go_num,(j8.o.next yk.o (by decide) rfl aE hu ix).drew⟩
      case measure=>simp[intOf];omega
     ·have q4:j=a+k:=by omega
      subst q4;go_wp2;go_roundw
      case rel=>
       refine⟨k+1,by omega,by go_num,v.gg,fun lk eL=> ?_,j3.zero _ _ _ _⟩;by_cases wa:lk=k
       ·subst wa;exact v.part
       ·exact v.full lk (by omega)
      case measure=>simp[intOf];omega
   ·have ql:k=4:=by omega
    subst ql;have D:=aa mT.gg;have ot:=aa (show ∀i,i<4->j3 2 #[A (-7070),A n.length].toList B (U i) (a+i) from mT.full);clear mT;have xg:¬((Value.slice c a e).ownBlock=some f):=fun E=>by
     obtain⟨Q,y⟩:=tl.o.type E;exact absurd (bz y hv.o) (by decide)
    have dM:=aa ((D.o.t.other f (aM hv.o) xg).trans hv.o);have D8:∀q,(Value.slice F n.length ac).ownBlock=some q->¬((Value.slice c a e).ownBlock=some q):=fun q h1 h2=>by
     obtain⟨Q,y⟩:=bt bR.o h1;obtain⟨Jm,fZ⟩:=tl.o.type h2;exact absurd (bz y fZ) (by decide)
    have h8:=aa (b4 bR.o (w':=B) fun q v=>D.o.t.other q (aoT bR.o q v).2 (D8 q v));have an3:B.cell? (K f 1)=some (.slice F n.length ac):=by simp[World.cell?,dM.o]
    have cP:=aM dM.o;have lM:=aa (show(B.alloc (.cells #[.slice (some (H w)) 4 4] 138)).ownsRow 0 138 1 (.slice F n.length ac) n.length (n.flatMap kZ) from c5 h8.o (by go_grown));have n9:=aa (show ∀j u,(kZ w)[j]?=some u->(B.alloc (.cells #[.slice (some (H w)) 4 4] 138)).cell? (V B j)=some u from one_cell (by simp[go_sem]));have pT:=aa (show some f≠(Value.slice F n.length ac).ownBlock from fun C=>by
     obtain⟨Q,y⟩:=bt h8.o C.symm;exact absurd (bz y dM.o) (by decide))
    go_wp2_with (first
     |(at_builtin;refine zd kZ 1 24 78 138 (.slice none 0 0) (by kernel_rfl) underlying78 rfl (by omega) (fun _=>rfl) rfl (.tmp 57) (.tmp 59) rfl 0 (.slice F n.length ac) n rfl lM.o B.heap.size 1 w rfl n9.o (by simp[kZ,Value.oneCell']) (by omega) (by unfold maxLen;omega) (aoR _) ?_;intro v4 w4 hj dB gp;have eE:=aa hj;have kF:=aa dB;have jw:=aa gp;have gn:=aa ((dB.block f (by simp;omega) pT.o).trans ((ec (by omega)).trans dM.o));clear hj dB gp;obtain⟨a4,kc,rfl,q0,ta,ub⟩:=bp eE.o;clear q0 ta ub;have bd:w4.cell? (K f 1)=some (.slice F n.length ac):=(by simp[World.cell?,gn.o]);have vH:=cS gn.o 1))
    have tb:(Value.slice a4 (n.length+1) kc).ownBlock≠some f:=fun C=>by
     obtain⟨Q,y⟩:=bt eE.o C;exact absurd (bz y gn.o) (by decide)
    have ky:∀(q:Nat) (Q:Array Value) (t:TypeId),B.heap[q]?=some (.cells Q t (0,0))->t≠138->t≠84->(w4.setCell (K f 1) (.slice a4 (n.length+1) kc)).heap[q]?=B.heap[q]?:=fun q Q t v h1 h2=>by
     have Jn:q≠f:=fun C=>by subst C;exact h2 (bz v dM.o)
     have DJ:some q≠(Value.slice F n.length ac).ownBlock:=fun C=>by
      obtain⟨Jm,y⟩:=bt h8.o C.symm;exact h1 (bz v y)
     have Bi:=aM v;exact(dI Jn).trans ((kF.o.block q (by simp;omega) DJ).trans (ec (by omega)))
    go_end0
    refine⟨rfl,.slice a4 (n.length+1) kc,w,U,akS gn.o,iW eE.o tb _,?_,?_,?_,D.o.gl,D.o.b⟩
    ·exact(D.o.t.mono fun q v=>.inr (.inl v)).trans ((aP.cQ ((aoQ _ B).alloc (aoP _) _)).trans ((aP.rN kF.o fun q v=>.inr (.inr v)).trans (aP.lf _ (.inl rfl))))
    ·exact jw.o.mono (aoS D.o.t.size (by simp))
    ·refine qB.af ⟨D.o.row,D.o.s,ot.o⟩ (ky w _ 65 D.o.row (by decide) (by decide)) fun i hi g ah=> ?_
     obtain⟨Q,y⟩:=(D.o.s i hi).type ah;exact ky g _ 36 y (by decide) (by decide)
theorem qB.cell{W}(c:qB j b f h k e i W)(d:a<4):W.cell? (K e a)=some (i a):=by
 rw[cell_of_row W e a _ b (0,0) c.row]
 match a,d with
 |0,_=>rfl
 |1,_=>rfl
 |2,_=>rfl
 |3,_=>rfl
theorem qB.form(n:qB b j f h e k i d)(q:a<4):∃m c,i a=.slice m (e+a) c/\e+a<=9223372036854775807/\(∀l,l<e+a->∃g,m=some (H g)):=by
 obtain⟨v,r⟩:=n.s a q;rcases r.2 with⟨o,p⟩|⟨g,t,w,o,_,_,p,u,_⟩
 ·exact⟨none,0,by rw[p];exact o,by omega,fun l x=>by omega⟩
 ·unfold maxLen at u
  exact⟨_,t,o,by omega,fun l _=>⟨g,rfl⟩⟩
theorem qB.grow{k}(c:qB b j k h a e i d)(l:J d m):qB b j k h a e i m:=
 c.af (l.block _ (aM c.row)) fun f n g o=>l.block g ((c.s f n).lt g o)
theorem SA(h:d.ownsRow 0 b 1 (.slice (some (H e)) a u) a (n.flatMap kZ))(c:a=n.length)(i:Nat)(g:i<n.length):d.cell? (K e i)=some (.slice (some (H (n[i]))) 4 4):=by
 have :=iw (f:=kZ) (k:=1) (fun _=>rfl) h c i g 0 (by omega);simpa[kZ]using this
def M0 (e b:TypeId) (k:Nat) (c:Nat->Array Value) (a:List Nat) (w:World):Prop:=∀i (d:i<a.length),∃n U,qB e b k (c i) n a[i] U w
def aaC (i:Nat):Array Value:= #[A (-7070),A i]
def aaD (i:Nat):Array Value:= #[A (-7070-(i:Int))]
def aaE (i:Nat):Array Value:= #[A (-7070-(i:Int)),A 0,A 0]
theorem akU{w x:List Nat}(W:d.heap[a]?=some (.cells #[s,l,q,r] 84 (0,0)))(nx:n.length<2000000000000)(fN:w.length<2000000000000)(kb:x.length<2000000000000)(X:d.ownsRow 0 138 1 l n.length (n.flatMap kZ))(Y:d.ownsRow 0 140 1 q w.length (w.flatMap kZ))(hc:d.ownsRow 0 141 1 r x.length (x.flatMap kZ))(hea:M0 36 65 2 aaC n d)(heb:M0 57 53 3 aaE w d)(e6:M0 3 24 1 aaD x d):
  O 36 #[.pointer (some (K a 1))] d fun e w'=>e=.returned (.bool true)/\J d w':=by
 obtain⟨j6,ac,rfl,anU,wI,qC⟩:=bp X;obtain⟨M1,M3,rfl,anV,xR,ob⟩:=bp Y;obtain⟨aow,GG,rfl,anW,dh,hcf⟩:=bp hc;have y:d.cell? (K a 1)=some (.slice j6 n.length ac):=by simp[World.cell?,W]
 have z:d.cell? (K a 2)=some (.slice M1 w.length M3):=by simp[World.cell?,W]
 have B:d.cell? (K a 3)=some (.slice aow x.length GG):=by simp[World.cell?,W]
 have C:=y;have D:=z;have E:=B;have rE:=aa qC;have Eg:=aa ob;have HCF:=aa hcf;have bR:=aa X;have aK:=aa Y;have dj:=aa hc;have HEA:=aa hea;have HEB:=aa heb;have HEC:=aa e6;clear qC ob hcf X Y hc hea heb e6 W;go_enter func36,ntmps36;go_wp2;go_loopw [3] (fun i wr=>∃p:Nat,p<=n.length/\i=A p/\J d wr) (fun i _=>n.length-(intOf i).toNat)
 case atStart=>exact⟨0,aoR _,rfl,aoQ _ _⟩
 case round=>
  obtain⟨p,ag,rfl,N⟩:=hrel;replace y:=af N C;replace z:=af N D;replace B:=af N E;by_cases k:p<n.length
  ·obtain⟨hx,rfl⟩:=rE.o p k
   have F:=SA bR.o rfl p k;obtain⟨c,U,I⟩:=HEA.o p k;have m:=aa I;clear I;have jm:(0:Int)<=(p:Int):=ao0 _;have ev:(p:Int)<(n.length:Int):=by omega
   generalize mv:n[p]=cf at *;go_wp2;go_loopw [4] (fun i wr=>∃b:Nat,b<=4/\i=A b/\J d wr) (fun i _=>4-(intOf i).toNat)
   case atStart=>exact⟨0,aoR _,rfl,N⟩
   case round=>
    obtain⟨b,ao,rfl,h⟩:=hrel;have d1:=af h F;replace y:=af h C;replace z:=af h D;replace B:=af h E;by_cases t:b<4
    ·obtain⟨Jk,Ef,u,vc,L⟩:=m.o.form t
     have P:=aa L;clear L;have u1:=m.o.cell t;rw[u]at u1;have M:=aa (m.o.MZ b t);have ng:(0:Int)<=(b:Int):=ao0 _;have rI:(b:Int)<4:=by omega
     go_wp2;go_loopw [5] (fun i wr=>∃j:Nat,j<=c+b/\i=A j/\J d wr) (fun i _=>c+b-(intOf i).toNat)
     case atStart=>exact⟨0,aoR _,rfl,h⟩
     case round=>
      obtain⟨j,ar,rfl,f⟩:=hrel;have d2:=af f F;have u2:=af f u1;replace y:=af f C;replace z:=af f D;replace B:=af f E;by_cases v:j<c+b
      ·obtain⟨g,rfl⟩:=P.o j v
       have Ap:(0:Int)<=(j:Int):=ao0 _;have r6:(j:Int)<(c:Int)+(b:Int):=by omega
       have Q:=af f (M.o j v g (by rw[u];rfl) 0 (A (-7070)) rfl);have ee:=af f (M.o j v g (by rw[u];rfl) 1 (A p) rfl);simp only[apL]at Q;go_wp2;go_roundw
       case rel=>exact⟨j+1,by omega,by go_num,f⟩
       case measure=>simp[intOf];omega
      ·go_wp2
       go_roundw
       case rel=>exact⟨b+1,by omega,by go_num,f⟩
       case measure=>simp[intOf];omega
    ·go_wp2
     go_roundw
     case rel=>exact⟨p+1,by omega,by go_num,h⟩
     case measure=>simp[intOf];omega
  ·go_wp2
   go_loopw [6] (fun i wr=>∃p:Nat,p<=w.length/\i=A p/\J d wr) (fun i _=>w.length-(intOf i).toNat)
   case atStart=>exact⟨0,aoR _,rfl,N⟩
   case round=>
    obtain⟨p,ag,rfl,R⟩:=hrel;replace y:=af R C;replace z:=af R D;replace B:=af R E;by_cases k:p<w.length
    ·obtain⟨hx,rfl⟩:=Eg.o p k
     have F:=SA aK.o rfl p k;obtain⟨c,U,I⟩:=HEB.o p k;have m:=aa I;clear I;have jm:(0:Int)<=(p:Int):=ao0 _;have ev:(p:Int)<(w.length:Int):=by omega
     generalize mv:w[p]=cf at *;go_wp2;go_loopw [7] (fun i wr=>∃b:Nat,b<=4/\i=A b/\J d wr) (fun i _=>4-(intOf i).toNat)
     case atStart=>exact⟨0,aoR _,rfl,R⟩
     case round=>
      obtain⟨b,ao,rfl,h⟩:=hrel;have d1:=af h F;replace y:=af h C;replace z:=af h D;replace B:=af h E;by_cases t:b<4
      ·obtain⟨Jk,Ef,u,vc,L⟩:=m.o.form t
       have P:=aa L;clear L;have u1:=m.o.cell t;rw[u]at u1;have M:=aa (m.o.MZ b t);have ng:(0:Int)<=(b:Int):=ao0 _;have rI:(b:Int)<4:=by omega
       go_wp2;go_loopw [8] (fun i wr=>∃j:Nat,j<=c+b/\i=A j/\J d wr) (fun i _=>c+b-(intOf i).toNat)
       case atStart=>exact⟨0,aoR _,rfl,h⟩
       case round=>
        obtain⟨j,ar,rfl,f⟩:=hrel;have d2:=af f F;have u2:=af f u1;replace y:=af f C;replace z:=af f D;replace B:=af f E;by_cases v:j<c+b
        ·obtain⟨g,rfl⟩:=P.o j v
         have Ap:(0:Int)<=(j:Int):=ao0 _;have r6:(j:Int)<(c:Int)+(b:Int):=by omega
         have Q:=af f (M.o j v g (by rw[u];rfl) 0 (A (-7070-(p:Int))) rfl);have ee:=af f (M.o j v g (by rw[u];rfl) 1 (A 0) rfl);have ew:=af f (M.o j v g (by rw[u];rfl) 2 (A 0) rfl);have Br:IntKind.i64.wrap (-7070-(p:Int))= -7070-(p:Int):=apO _ (by omega);simp only[apL]at Q;go_wp2;go_roundw
         case rel=>exact⟨j+1,by omega,by go_num,f.alloc f.size _⟩
         case measure=>simp[intOf];omega
        ·go_wp2
         go_roundw
         case rel=>exact⟨b+1,by omega,by go_num,f⟩
         case measure=>simp[intOf];omega
      ·go_wp2
       go_roundw
       case rel=>exact⟨p+1,by omega,by go_num,h⟩
       case measure=>simp[intOf];omega
    ·go_wp2
     go_loopw [10] (fun i wr=>∃p:Nat,p<=x.length/\i=A p/\J d wr) (fun i _=>x.length-(intOf i).toNat)
     case atStart=>exact⟨0,aoR _,rfl,R⟩
     case round=>
      obtain⟨p,ag,rfl,S⟩:=hrel;replace y:=af S C;replace z:=af S D;replace B:=af S E;by_cases k:p<x.length
      ·obtain⟨hx,rfl⟩:=HCF.o p k
       have F:=SA dj.o rfl p k;obtain⟨c,U,I⟩:=HEC.o p k;have m:=aa I;clear I;have jm:(0:Int)<=(p:Int):=ao0 _;have ev:(p:Int)<(x.length:Int):=by omega
       generalize mv:x[p]=cf at *;go_wp2;go_loopw [11] (fun i wr=>∃b:Nat,b<=4/\i=A b/\J d wr) (fun i _=>4-(intOf i).toNat)
       case atStart=>exact⟨0,aoR _,rfl,S⟩
       case round=>
        obtain⟨b,ao,rfl,h⟩:=hrel;have d1:=af h F;replace y:=af h C;replace z:=af h D;replace B:=af h E;by_cases t:b<4
        ·obtain⟨Jk,Ef,u,vc,L⟩:=m.o.form t
         have P:=aa L;clear L;have u1:=m.o.cell t;rw[u]at u1;have M:=aa (m.o.MZ b t);have ng:(0:Int)<=(b:Int):=ao0 _;have rI:(b:Int)<4:=by omega
         go_wp2;go_loopw [12] (fun i wr=>∃j:Nat,j<=c+b/\i=A j/\J d wr) (fun i _=>c+b-(intOf i).toNat)
         case atStart=>exact⟨0,aoR _,rfl,h⟩
         case round=>
          obtain⟨j,ar,rfl,f⟩:=hrel;have d2:=af f F;have u2:=af f u1;replace y:=af f C;replace z:=af f D;replace B:=af f E;by_cases v:j<c+b
          ·obtain⟨g,rfl⟩:=P.o j v
           have Ap:(0:Int)<=(j:Int):=ao0 _;have r6:(j:Int)<(c:Int)+(b:Int):=by omega
           have Q:=af f (M.o j v g (by rw[u];rfl) 0 (A (-7070-(p:Int))) rfl);have Br:IntKind.i64.wrap (-7070-(p:Int))= -7070-(p:Int):=apO _ (by omega);simp only[apL,aqf]at Q;go_wp2;go_roundw
           case rel=>exact⟨j+1,by omega,by go_num,f⟩
           case measure=>simp[intOf];omega
          ·go_wp2
           go_roundw
           case rel=>exact⟨b+1,by omega,by go_num,f⟩
           case measure=>simp[intOf];omega
        ·go_wp2
         go_roundw
         case rel=>exact⟨p+1,by omega,by go_num,h⟩
         case measure=>simp[intOf];omega
      ·go_wp2
       go_ret
       exact⟨rfl,S⟩
end Go.Proofs.YtnkpogjiiohapaaGreatDoor
