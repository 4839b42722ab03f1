/- Our own text. -/
import Derived.Test.YtnkpogjiiohapaaGreatDoorA25
import Derived.Test.YtnkpogjiiohapaaGreatDoorA20
set_option linter.unusedSimpArgs false
set_option linter.unusedVariables false
set_option maxRecDepth 1000000
set_option maxHeartbeats 4000000
namespace Go.Proofs.YtnkpogjiiohapaaGreatDoor
section
open Go.RowKit Tryz
attribute [local go_sem ↓] Go.wp_at_zero Go.wp_at_succ
variable {a c j k:Nat}{b:World}{d:List ar}{e:Nat->Int}{f i:Nat->Prop}{h:fS}{l:PId}{m:bg}
theorem MI{f g h d e x y z:Value}{t j:TypeId}(k:b.heap[a]?=some (.cells #[f,g,h,d,e] t (0,0)))(i:b.heap[c]?=some (.cells #[x,y,z] j (0,0))):
  b.cell? (H a)=some f/\b.cell? (K a 1)=some g/\b.cell? (K a 2)=some h/\b.cell? (K a 3)=some d/\b.cell? (K a 4)=some e/\b.cell? (H c)=some x/\b.cell? (K c 1)=some y/\b.cell? (K c 2)=some z:=by
 obtain⟨l,m,n,o,p⟩:=gb k;exact⟨l,m,n,o,p,by simp[World.cell?,i],by simp[World.cell?,i],by simp[World.cell?,i]⟩
structure Gq (c:Nat) (gt:Int) (has:Nat->Int) (ops:List ar) (q:fS):Prop where
 g:0<=gt/\gt<=90000
 h:0<=has c/\has c<=60
 old:∀o∈ops,o.op.id.1<=gt
 len:ops.length<=290
 fX:∀aV key el,(eZ q.D.1 q.D.2 aV key el).aC.length<=10000/\((eZ q.D.1 q.D.2 aV key el).aC.map (·.1)).Nodup
def yI (F I:Nat->Prop) (N g c h:Nat) (gt:Int) (a:Nat->Int) (i:List ar) (early:List (PId×ar)) (q:fS) (w d:World) (j:lg):Prop:=∃t v e b f,dA d h e b N g c (gt+1) (upd a c (a c+1)) (i++[kk c gt a j t v]) early f/\FZ q f/\c6 F e w d/\(∀k,I k->b k)/\∀k,b k->I k\/w.heap.size<=k
theorem YV{gt early}(l:dA b c i f j k a gt e d early h)(n:Gq a gt e d h)(p:Bool):
  O 73 #[Z c,.bool p] b fun m w'=>m=.returned (.agg #[A (gt+1),A a])/\yI i f j k a c gt e d early h b w' (.inl p):=by
 have s:=aa ((apY b.heap.size b).alloc (apX _) (.cells #[A 0,A 0] 36));have t:=aa l.lt;have D:=aa l.cx;have E:=aa (Md (l.ae s.o) ⟨n.g.1,by have :=n.g.2;omega⟩ ⟨n.h.1,by have :=n.h.2;omega⟩ n.old (by have :=n.len;omega) 197 (.agg #[.bool p]) (.inl p) rfl);clear l n;have F:=aa (bI b (.cells #[A 0,A 0] 36));go_enter func73,ntmps73;go_wp2_with fail
 refine E.o.mono ?_;rintro m I ⟨rfl,u,L,w,x,r⟩;have q:I.heap[b.heap.size]?=some (.cells #[A 0,A 0] 36 (0,0)):=(r.other _ (by simp) (fun hF=>by have :=t.o _ hF;omega)).trans F.o;obtain⟨M,N⟩:=bl q;have S:=cG q;have U:=aN q;have P:=aa w;have z:=aa r;have Q:=aa x;clear w r q x;go_wp2;refine bodyPost_ret (v:=.agg #[A (gt+1),A a]) (by simp[results,results73,go_sem,M,N]) rfl ?_;have B:¬u b.heap.size:=fun hF=>by
  rcases z.o.sub _ hF with l|l
  ·have :=t.o _ l;omega
  simp at l;omega
 have C:¬f b.heap.size:=fun R=>by have :=D.o _ R;omega
 exact⟨rfl,_,_,u,f,L,(P.o.set _ B C).set _ B C,Q.o,((z.o.before s.o).vz (apX _) _).vz (apX _) _,fun _ y=>y,fun _ y=>.inl y⟩
theorem MJ{gt early q}(h:dA b a i f j k c gt e d early q)(B:Gq c gt e d q)(p s:PId)(w:ByteArray)(n:dU):
  O 62 #[Z a,.agg #[A p.1,A p.2,.string w,A s.1,A s.2],.agg #[A n.1,A n.2.1,A n.2.2]] b fun m w'=>(∃r,m=.returned r)/\∃z,z.Perm ((eZ q.D.1 q.D.2 p w s).aC.map (·.1))/\mX z/\yI i f j k c a gt e d early q b w' (.inr (.inr (.inl (p,w,s,n,z)))):=by
 have P:=aa h.lt;have cW:=aa h;have Q:=aa (((apY b.heap.size b).alloc (apX _) (.cells #[A p.1,A p.2,.string w,A s.1,A s.2] 97)).alloc (by simp) (.cells #[A n.1,A n.2.1,A n.2.2] 57));have gL:=aa (fun W (C:J b W)=>yw (h.ae C));have fh:=aa (fun W (C:J b W)=>XF (h.ae C).jT.q p.1 p.2 s.1 s.2 w (B.fX p w s).1 (B.fX p w s).2);have rV:=aa (fun(W:World) (C:J b W) (F:Nat->Prop) (y:∀l,f l->F l) (h2:∀l,F l->l<W.heap.size) (al:∀l,F l->¬i l) (t:TypeId) (v:Value) (chg:lg) (ao:pX W F (.iface t v) chg)=>Md ((h.ae C).zP y h2 al) ⟨B.g.1,by have :=B.g.2;omega⟩ ⟨B.h.1,by have :=B.h.2;omega⟩ B.old (by have :=B.len;omega) t v chg ao);clear h B;go_enter func62,ntmps62;go_wp2_with fail
 have lP:=aa ((hK (b.alloc (.cells #[A p.1,A p.2,.string w,A s.1,A s.2] 97)) (.cells #[A n.1,A n.2.1,A n.2.2] 57) (r:=b.heap.size) (by simp)).trans (bI b _));have MK:=aa (show((b.alloc (.cells #[A p.1,A p.2,.string w,A s.1,A s.2] 97)).alloc (.cells #[A n.1,A n.2.1,A n.2.2] 57)).heap[b.heap.size+1]?=some (.cells #[A n.1,A n.2.1,A n.2.2] 57 (0,0)) by
  have :=bI (b.alloc (.cells #[A p.1,A p.2,.string w,A s.1,A s.2] 97)) (.cells #[A n.1,A n.2.1,A n.2.2] 57);rw[show(b.alloc (.cells #[A p.1,A p.2,.string w,A s.1,A s.2] 97)).heap.size=b.heap.size+1 by simp]at this;exact this)
 go_region_held3 (fun W=>W.cell? (V b 0)=some (A p.1)/\W.cell? (V b 1)=some (A p.2)/\W.cell? (V b 2)=some (.string w)/\W.cell? (V b 3)=some (A s.1)/\W.cell? (V b 4)=some (A s.2)/\
   W.cell? (H (b.heap.size+1))=some (A n.1)/\W.cell? (K (b.heap.size+1) 1)=some (A n.2.1)/\W.cell? (K (b.heap.size+1) 2)=some (A n.2.2)) (first |exact MI lP.o MK.o|exact MI hV.o PO.o|exact MI R.o S.o|exact MI ke.o qJ.o)
  (first
   |(go_at_call 48;refine(gL.o _ Q.o.drew).mono ?_;rintro m w1 ⟨rfl,I⟩;have ke:=aa (bj lP.o (Hq.o (mx I)));have qJ:=aa (bj MK.o (Hq.o (mx I)));have E:=aa (Q.o.drew.trans (I.mono Q.o.size));clear I)
   |(go_at_call 92;refine(fh.o w1 E.o).mono ?_;rintro m w2 ⟨u,z,rfl,ah,av,L,M⟩;have R:=aa (bj ke.o M);have S:=aa (bj qJ.o M);obtain⟨U,X,rfl,_,_,_⟩:=bm L;have gr:=aa (show eE w2 (.slice U z.length X) z from L.ids);have Y:=aa (fun l (x:(Value.slice U z.length X).ownBlock=some l)=>ap1 L l x);have bd:=aa (E.o.trans (M.mono E.o.size));have zY:=aa (And.intro ah av);clear L M ah av)
   |(go_at_call 91;refine(rV.o w2 bd.o (fun l=>f l\/(Value.slice U z.length X).ownBlock=some l) (fun l x=>.inl x) (fun l x=>x.elim (fun y=>ap3 (cW.o.cx l y) bd.o.size) fun y=>(Y.o l y).2) (fun l x hF=>x.elim (fun y=>cW.o.eC l y hF) fun y=>by have :=(Y.o l y).1;have :=P.o l hF;have :=E.o.size;omega) 182 _ (.inr (.inr (.inl (p,w,s,n,z)))) ?jQ).mono ?_;(case jQ=>exact⟨_,rfl,gr.o,fun l x=>.inr x⟩);rintro m w3 ⟨rfl,aR,fT,fs,l1,N⟩;have hV:=aa ((N.other _ (aN R.o) (fun hF=>by have :=P.o _ hF;omega)).trans R.o);have PO:=aa ((N.other _ (aN S.o) (fun hF=>by have :=P.o _ hF;omega)).trans S.o);have hy:=aa fs;have ns:=aa N;have fa:=aa l1;clear fs N l1))
 all_goals go_wp2
 all_goals go_end0
 all_goals exact⟨⟨_,rfl⟩,z,zY.o.1,zY.o.2,_,_,aR,_,fT,hy.o,fa.o,ns.o.before bd.o,fun l x=>.inl x,fun l x=>x.imp id fun y=>ap0 E.o.size (Y.o l y).1⟩
theorem yI.before{F I N a c b gt d e early q f g}{w W:World}(i:J w W)(h:yI F I N a c b gt d e early q W f g):yI F I N a c b gt d e early q w f g:=by
 obtain⟨t,v,j,l,m,n,o,p,r,s⟩:=h;exact⟨t,v,j,l,m,n,o,p.before i,r,fun k u=>(s k u).imp id fun y=>ap0 i.size y⟩
theorem YW{a b}(h:yq a l m b)(c:m.list=true):(m.ss.map b9.id).filter (qu a)=dB m:=by
 unfold dB;rw[List.filter_map];congr 1;apply List.filter_congr;intro s d;obtain⟨_,_,e,f,_,g⟩:=h.elems c s d;simp only[Function.comp,qu,f];rw[g.length_eq,ap2]
theorem YX{c d u v:Value}{t:TypeId}(h:b.heap[a]?=some (.cells #[c,d] t (0,0))):((b.setCell (H a) u).setCell (K a 1) v).heap[a]?=some (.cells #[u,v] t (0,0)):=by
 have e:=setRow (i:=1) (u:=v) (setRow (i:=0) (u:=u) h);simpa using e
theorem dA.elements{gt r early R}(g:dA b a f i c j k gt e r early h)(o:e1 R h.D)(s:bt R l=some m)(p:m.list=true)(t:m.ss.length<=10000)(W:World)(v:J b W):
  O 57 #[Z h.d,.agg #[A l.1,A l.2]] W fun n q=>∃u,n=.returned u/\gA W.heap.size q u (dB m)/\J W q:=by
 obtain⟨x,w,o⟩:=o.bh l m s;have :=VZ (g.jT.q.ae v) l.1 l.2 w (o.list.trans p) (o.chain p) (by rw[ap2];exact t);rw[YW o p]at this;exact this
theorem YY{gt early}(l:dA b c f i j k a gt e d early h)(B:Gq a gt e d h)(m p:PId)(q:ByteArray)(n:Int):
  O 47 #[Z c,.agg #[A m.1,A m.2,.string q,A p.1,A p.2],A n] b fun g C=>(e a<60/\g=.returned (A 0)/\∃s,s.Perm ((eZ h.D.1 h.D.2 m q p).aC.map (·.1))/\mX s/\yI f i j k a c gt e d early h b C (.inr (.inr (.inl (m,q,p,(n,(0,0)),s)))))\/(¬e a<60/\g=.returned (A 8)/\J b C):=by
 have v:=aa ((apY b.heap.size b).alloc (apX _) (.cells #[A m.1,A m.2,.string q,A p.1,A p.2] 97));have L:=aa (Iv (l.ae v.o) 1 (by omega));have M:=aa (fun W (N:J b W)=>MJ (l.ae N) B m p q (n,(0,0)));clear l B;have P:=aa (bI b (.cells #[A m.1,A m.2,.string q,A p.1,A p.2] 97));go_enter func47,ntmps47;go_wp2_with fail
 refine L.o.mono ?_;rintro g Q ⟨rfl,w⟩;obtain⟨R,S,U,X,Y⟩:=gb (bj P.o w);have x:=aa (v.o.trans (w.mono v.o.size));clear w;by_cases u:e a<60
 ·have t:decide (e a+((1:Nat):Int)<=60)=true:=decide_eq_true (by omega);rw[t];have y:=aa u;clear u t;go_wp2_with fail
  refine(M.o Q x.o).mono ?_;rintro g w2 ⟨⟨r,rfl⟩,s,E,F,I⟩;have z:=aa (And.intro E (And.intro F I));clear E F I;go_wp2;go_ret
  exact .inl ⟨y.o,rfl,s,z.o.1,z.o.2.1,z.o.2.2.before x.o⟩
 have t:decide (e a+((1:Nat):Int)<=60)=false:=decide_eq_false (by omega);rw[t];have y:=aa u;clear u t;go_wp2;go_ret
 exact .inr ⟨y.o,rfl,x.o⟩
theorem YZ{gt early q}(h:dA b c i f j k a gt e d early q)(y:Gq a gt e d q)(n p:PId)(w:ByteArray):
  O 65 #[Z c,.agg #[A n.1,A n.2,.string w,A p.1,A p.2]] b fun m w'=>(e a<60/\m=.returned (A 0)/\∃x,x.Perm ((eZ q.D.1 q.D.2 n w p).aC.map (·.1))/\mX x/\yI i f j k a c gt e d early q b w' (.inr (.inr (.inr (n,w,p,x)))))\/(¬e a<60/\m=.returned (A 8)/\J b w'):=by
 have dn:=aa h.lt;have cW:=aa h;have M:=aa ((apY b.heap.size b).alloc (apX _) (.cells #[A n.1,A n.2,.string w,A p.1,A p.2] 97));have bJ:=aa (Iv (h.ae M.o) 1 (by omega));have gL:=aa (fun W (z:J b W)=>yw (h.ae z));have fh:=aa (fun W (z:J b W)=>XF (h.ae z).jT.q n.1 n.2 p.1 p.2 w (y.fX n w p).1 (y.fX n w p).2);have rV:=aa (fun(W:World) (z:J b W) (E:Nat->Prop) (s:∀l,f l->E l) (h2:∀l,E l->l<W.heap.size) (al:∀l,E l->¬i l) (t:TypeId) (v:Value) (chg:lg) (ao:pX W E (.iface t v) chg)=>Md ((h.ae z).zP s h2 al) ⟨y.g.1,by have :=y.g.2;omega⟩ ⟨y.h.1,by have :=y.h.2;omega⟩ y.old (by have :=y.len;omega) t v chg ao);clear h y;have lP:=aa (bI b (.cells #[A n.1,A n.2,.string w,A p.1,A p.2] 97));go_enter func65,ntmps65;go_wp2_with fail
 refine bJ.o.mono ?_;rintro m w1 ⟨rfl,N⟩;have ke:=aa (bj lP.o N);have F:=aa (M.o.trans (N.mono M.o.size));clear N;by_cases I:e a<60
 ·have B:decide (e a+((1:Nat):Int)<=60)=true:=decide_eq_true (by omega);rw[B];have P:=aa I;clear I B;go_wp2_with fail
  go_region_held3 (fun W=>W.cell? (V b 0)=some (A n.1)/\W.cell? (V b 1)=some (A n.2)/\W.cell? (V b 2)=some (.string w)/\W.cell? (V b 3)=some (A p.1)/\W.cell? (V b 4)=some (A p.2)) (first |exact gb ke.o|exact gb PN.o|exact gb Q.o|exact gb jP.o)
   (first
    |(go_at_call 48;refine(gL.o _ F.o.drew).mono ?_;rintro m w2 ⟨rfl,R⟩;have jP:=aa (bj ke.o (Hq.o (mx R)));have C:=aa (F.o.drew.trans (R.mono F.o.size));clear R)
    |(go_at_call 92;refine(fh.o w2 C.o).mono ?_;rintro m w3 ⟨u,x,rfl,ah,av,L,S⟩;have Q:=aa (bj jP.o S);obtain⟨U,X,rfl,_,_,_⟩:=bm L;have gr:=aa (show eE w3 (.slice U x.length X) x from L.ids);have Y:=aa (fun l (r:(Value.slice U x.length X).ownBlock=some l)=>ap1 L l r);have bB:=aa (C.o.trans (S.mono C.o.size));have zY:=aa (And.intro ah av);clear L S ah av)
    |(go_at_call 91;refine(rV.o w3 bB.o (fun l=>f l\/(Value.slice U x.length X).ownBlock=some l) (fun l r=>.inl r) (fun l r=>r.elim (fun s=>ap3 (cW.o.cx l s) bB.o.size) fun s=>(Y.o l s).2) (fun l r hF=>r.elim (fun s=>cW.o.eC l s hF) fun s=>by have :=(Y.o l s).1;have :=dn.o l hF;have :=C.o.size;omega) 184 _ (.inr (.inr (.inr (n,w,p,x)))) ?jQ).mono ?_;(case jQ=>exact⟨_,rfl,gr.o,fun l r=>.inr r⟩);rintro m w4 ⟨rfl,aR,fT,Iw,RN,qC⟩;have PN:=aa ((qC.other _ (aN Q.o) (fun hF=>by have :=dn.o _ hF;omega)).trans Q.o);have o1:=aa Iw;have F2:=aa qC;have ru:=aa RN;clear Iw qC RN))
  all_goals go_wp2
  all_goals go_ret
  all_goals exact .inl ⟨P.o,rfl,x,zY.o.1,zY.o.2,_,_,aR,_,fT,o1.o,ru.o,F2.o.before bB.o,fun l r=>.inl r,fun l r=>r.imp id fun s=>ap0 C.o.size (Y.o l s).1⟩
 have B:decide (e a+((1:Nat):Int)<=60)=false:=decide_eq_false (by omega);rw[B];have P:=aa I;clear I B;go_wp2;go_ret
 exact .inr ⟨P.o,rfl,F.o⟩
theorem Y0{gt early q R}(h:dA b c i f j k a gt e d early q)(x:Gq a gt e d q)(cU:e1 R q.D)(af:bt R l=some m)(bz:m.list=true)(kv:m.ss.length<=300)(r:Int){o:PId}(w:jN (dB m) r=some o):
  O 61 #[Z c,.agg #[A l.1,A l.2],A r] b fun s w'=>s=.returned (.agg #[A (gt+1),A a])/\yI i f j k a c gt e d early q b w' (.inr (.inl (l,o))):=by
 have dn:=aa h.lt;have RM:=aa h.cx;have B:=aa (((((apY b.heap.size b).alloc (apX _) (.cells #[A l.1,A l.2] 36)).alloc (by simp <;>omega) (.cells #[A 0,A 0] 36)).alloc (by simp <;>omega) (.cells #[A 0,A 0] 36)));have gL:=aa (fun W (ab:J b W)=>yw (h.ae ab));have cT:=aa (h.elements cU af bz (by omega));have rV:=aa (fun(W:World) (ab:J b W)=>Md (h.ae ab) ⟨x.g.1,by have :=x.g.2;omega⟩ ⟨x.h.1,by have :=x.h.2;omega⟩ x.old (by have :=x.len;omega) 179 (.agg #[A l.1,A l.2,A o.1,A o.2]) (.inr (.inl (l,o))) rfl);have gd:(dB m).length<=300:=by
  have al:(dB m).length<=m.ss.length:=by unfold dB;rw[ap2];exact aqR _ _
  omega
 clear h af bz x cU kv;unfold jN at w;have pI:¬(r<0\/r>(dB m).length):=fun ax=>by rw[if_pos ax]at w;cases w
 rw[if_neg pI]at w;have c2:=aa (show(((b.alloc (.cells #[A l.1,A l.2] 36)).alloc (.cells #[A 0,A 0] 36)).alloc (.cells #[A 0,A 0] 36)).heap[b.heap.size]?=some (.cells #[A l.1,A l.2] 36 (0,0)) from(hK _ _ (by simp;omega)).trans ((hK _ _ (by simp)).trans (bI b _)));have bW:=aa (show(((b.alloc (.cells #[A l.1,A l.2] 36)).alloc (.cells #[A 0,A 0] 36)).alloc (.cells #[A 0,A 0] 36)).heap[b.heap.size+1]?=some (.cells #[A 0,A 0] 36 (0,0)) from(hK _ _ (by simp)).trans (by
  have :=bI (b.alloc (.cells #[A l.1,A l.2] 36)) (.cells #[A 0,A 0] 36);rw[show(b.alloc (.cells #[A l.1,A l.2] 36)).heap.size=b.heap.size+1 by simp]at this;exact this))
 have cB:=aa (show(((b.alloc (.cells #[A l.1,A l.2] 36)).alloc (.cells #[A 0,A 0] 36)).alloc (.cells #[A 0,A 0] 36)).heap[b.heap.size+1+1]?=some (.cells #[A 0,A 0] 36 (0,0)) from(by
  have :=bI ((b.alloc (.cells #[A l.1,A l.2] 36)).alloc (.cells #[A 0,A 0] 36)) (.cells #[A 0,A 0] 36);rw[show((b.alloc (.cells #[A l.1,A l.2] 36)).alloc (.cells #[A 0,A 0] 36)).heap.size=b.heap.size+1+1 by simp]at this;exact this))
 have S:=aa (show ∀p,b.heap.size<=p->¬i p from fun p hk hF=>by have :=dn.o p hF;omega);have Y1:=aa (show ∀p,b.heap.size<=p->¬f p from fun p hk hF=>by have :=RM.o p hF;omega);by_cases bM:r=0
 ·subst bM;rw[if_pos rfl]at w;cases w;go_enter func61,ntmps61;go_wp2_with fail
  refine(rV.o _ B.o).mono ?_;rintro s C ⟨rfl,E,fT,F,I,z⟩;have t:=(z.other _ (aN bW.o) (S.o _ (by omega))).trans bW.o;obtain⟨fz,eP⟩:=bl t;have kR:=cG t;have F4:=aN t;have hy:=aa F;have L:=aa z;have fa:=aa I;clear F z t I;go_wp2;refine bodyPost_ret (v:=.agg #[A (gt+1),A a]) (by simp[results,results61,go_sem,fz,eP]) rfl ?_;have M:¬E (b.heap.size+1):=fun hF=>by
   rcases L.o.sub _ hF with h|h
   ·exact S.o _ (by omega) h
   simp at h;omega
  have N:=Y1.o (b.heap.size+1) (by omega);exact⟨rfl,_,_,E,f,fT,(hy.o.set _ M N).set _ M N,fa.o,((L.o.before B.o).vz (by omega) _).vz (by omega) _,fun _ y=>y,fun _ y=>.inl y⟩
 rw[if_neg bM]at w;obtain⟨n,rfl⟩:∃n:Nat,r=(n:Int)+1:=⟨(r-1).toNat,by omega⟩;rw[show((n:Int)+1-1).toNat=n by omega]at w;obtain⟨au,yJ⟩:=arB.1 w;have AW:(0:Int)<=(n:Int):=aqc _;have sl:(n:Int)<((dB m).length:Int):=by omega
 have I3:=aa yJ;clear w yJ;have hjs:(n:Int)+1-1=(n:Int):=by omega
 have hjw:IntKind.i64.wrap (n:Int)=(n:Int):=aqS _ (by omega);have iu:n<(dB m).length:=au;obtain⟨U,X⟩:=bl c2.o;go_enter func61,ntmps61;go_wp2_with fail
 go_region_with (first
  |(go_at_call 48;refine(gL.o _ B.o.drew).mono ?_;rintro s w1 ⟨rfl,t⟩;have Y:=Hq.o (mx t);have l7:=aa (bj c2.o Y);have dM:=aa (bj bW.o Y);have jD:=aa (bj cB.o Y);replace U:=(bl l7.o).1;replace X:=(bl l7.o).2;have ay:=aa (B.o.drew.trans (t.mono B.o.size));clear t Y)
  |(go_at_call 57;refine(cT.o w1 ay.o).mono ?_;rintro s w2 ⟨u,rfl,hu,P⟩;obtain⟨kE,kF,rfl,va,sZ,iw⟩:=bm hu;obtain⟨ug,rfl⟩:=iw n au;clear iw;unfold maxLen at sZ;obtain⟨u0,u1⟩:=eE.cells hu.ids rfl n au;rw[I3.o]at u0 u1;have n9:=aa (bj l7.o P);have pq:=aa (bj dM.o P);have nE:=aa (bj jD.o P);have z0:=(bl nE.o).1;have z1:=(bl nE.o).2;have B9:=cG nE.o;replace U:=(bl n9.o).1;replace X:=(bl n9.o).2;have bd:=aa (ay.o.trans (P.mono ay.o.size));have HGU:=aa (ap1 hu ug rfl).1;clear hu P))
 all_goals(
  generalize Q:(w2.setCell (H (b.heap.size+1+1)) (A o.1)).setCell (K (b.heap.size+1+1) 1) (A o.2)=C;have lZ:=aa (show C.heap[b.heap.size+1+1]?=some (.cells #[A o.1,A o.2] 36 (0,0)) by rw[<-Q];exact YX nE.o);have o3:=aa (show C.heap[b.heap.size+1]?=some (.cells #[A 0,A 0] 36 (0,0)) by rw[<-Q,dy (by omega),dy (by omega)];exact pq.o);have rH:=aa (show C.heap[b.heap.size]?=some (.cells #[A l.1,A l.2] 36 (0,0)) by rw[<-Q,dy (by omega),dy (by omega)];exact n9.o);have bB:=aa (show J b C by rw[<-Q];exact(bd.o.setCell (show b.heap.size<=b.heap.size+1+1 by omega) _).setCell (show b.heap.size<=b.heap.size+1+1 by omega) _);clear Q;replace U:=(bl rH.o).1;replace X:=(bl rH.o).2;replace z0:=(bl lZ.o).1;replace z1:=(bl lZ.o).2;go_wp2_with fail
  refine(rV.o _ bB.o).mono ?_;rintro s w4 ⟨rfl,E,fT,F,I,z⟩;have t:=(z.other _ (aN o3.o) (S.o _ (by omega))).trans o3.o;obtain⟨fz,eP⟩:=bl t;have kR:=cG t;have F4:=aN t;have hy:=aa F;have L:=aa z;have fa:=aa I;have qw:=aN o3.o;clear F z t U X z0 z1 B9 I;go_wp2;refine bodyPost_ret (v:=.agg #[A (gt+1),A a]) (by simp[results,results61,go_sem,fz,eP]) rfl ?_;have M:¬E (b.heap.size+1):=fun hF=>by
   rcases L.o.sub _ hF with h|h
   ·exact S.o _ (by omega) h
   omega
  have N:=Y1.o (b.heap.size+1) (by omega);exact⟨rfl,_,_,E,f,fT,(hy.o.set _ M N).set _ M N,fa.o,((L.o.before bB.o).vz (by omega) _).vz (by omega) _,fun _ y=>y,fun _ y=>.inl y⟩)
end
section
variable {a b:Nat}{c:Nat->List ar}{d:ar}
def qK (M:Nat->List ar) (c:Nat) (o:ar):Nat->List ar:=upd M c (M c++[o])
theorem oa(M:Nat->List ar)(c:Nat)(o:ar):qK M c o c=M c++[o]:=bF _ _ _
theorem sn(M:Nat->List ar)(o:ar)(h:a≠b):qK M b o a=M a:=b6 _ _ h
theorem Y2{o:ar}(h:d∈c a):d∈qK c b o a:=by
 by_cases e:a=b
 ·subst e;rw[oa];simp_all
 rw[sn _ _ e];exact h
theorem Y3(M:Nat->List ar)(c e:Nat)(o:ar):(M e).length<=(qK M c o e).length:=by
 by_cases a:e=c
 ·subst a;rw[oa];simp
 rw[sn _ _ a];simp
theorem nc.add{o:ar}(h:nc a c d):nc a (qK c b o) d:=by
 obtain⟨e,f,g⟩:=h;exact⟨e,f,Y2 g⟩
theorem IZ.add{N:Nat}{M:Nat->List ar}{c:Nat}{o:ar}:∀{m:hp},IZ N M m->IZ N (qK M c o) m
 |.inl _,⟨d,a⟩=>⟨d,fun i b=>⟨(a i b).1,aro (a i b).2 (by have :=Y3 M c i o;omega)⟩⟩
 |.inr _,h=>fun y e=>(h y e).add
theorem Y4{M:Nat->List ar}{c:Nat}{o:ar}:∀n,vV (qK M c o) n=vV M n+if c<n then 1 else 0
 |0=>by rfl
 |n+1=>by
  unfold vV;rw[Y4 n];by_cases h:n=c
  ·subst h;rw[oa,if_neg (by omega),if_pos (by omega),ap4];rfl
  rw[sn _ _ h];by_cases a:c<n
  ·rw[if_pos a,if_pos (by omega)];omega
  rw[if_neg a,if_neg (by omega)];omega
theorem Y5{N:Nat}{M:Nat->List ar}(h:∀c,c<N->(M c).length<=60):∀n,n<=N->vV M n<=n*60
 |0,_=>apX _
 |n+1,a=>by
  have b:=Y5 h n (by omega);have d:=h n (by omega);unfold vV;omega
theorem take_add{d:Nat}{o:ar}(h:b<=(c a).length):(qK c d o a).take b=(c a).take b:=by
 by_cases e:a=d
 ·subst e;rw[oa,arf h]
 rw[sn _ _ e]
theorem lK.add{N M gt b d early}(h:lK N M gt b d early)(c:Nat)(o:ar):lK N (qK M c o) gt b d early:=by
 refine⟨fun e a=>⟨(h.km e a).1,aro (h.km e a).2 (by have :=Y3 M c e o;omega)⟩,?_,h.yH,fun p f=>⟨(h.Gm p f).1.add,(h.Gm p f).2⟩,h.RG⟩;rw[Yz (M':=M) (has':=b) fun e a=>take_add (by have :=h.km e a;omega)];exact h.perm
theorem Y6{M:Nat->List ar}{a:Nat->Int}{c:Nat}{o:ar}{N:Nat}(b:∀e,e<N->0<=a e/\a e<=(M e).length)(f:a c=(M c).length):∀n,n<=N->(oD (qK M c o) (upd a c (a c+1)) n).Perm (oD M a n++if c<n then[o] else[])
 |0,_=>by rfl
 |n+1,j=>by
  have ih:=Y6 (o:=o) b f n (by omega);rw[Ac,Ac];by_cases h:n=c
  ·subst h;rw[oa,bF,if_pos (by omega)];rw[if_neg (by omega),aqB]at ih;have g:(M n++[o]).take (a n+1).toNat=M n++[o]:=aql (by simp_all);have i:(M n).take (a n).toNat=M n:=by simp_all
   rw[g,i,aqs];exact ih.append_right _
  have k:=b n (by omega);rw[b6 _ _ h,take_add (by omega)];by_cases d:c<n
  ·rw[if_pos d]at ih;rw[if_pos (by omega)];refine(ih.append_right _).trans ?_;rw[aqs,aqs];exact asx _ asy
  rw[if_neg d]at ih;rw[if_neg (by omega),aqB];rw[aqB]at ih;exact ih.append_right _
theorem ev.wrote{s}(h:ev b c s)(C:a<b)(hl:(c a).length<60)(M:lg)(t:TypeId)(v:Value):
  ev b (qK c a (kk a (s.gt a) (s.has a) M t v)) (l5 s a (s.gt a+1) (upd (s.has a) a (s.has a a+1)) (s.ops a++[kk a (s.gt a) (s.has a) M t v]) (s.kept a++[kk a (s.gt a) (s.has a) M t v]) (s.early a)):=by
 obtain⟨o,N⟩:∃o,o=kk a (s.gt a) (s.has a) M t v:=⟨_,rfl⟩;have bh:o.op.id.1=s.gt a+1:=by rw[N];rfl
 have bO:o.op.id.2=(a:Int):=by rw[N];rfl
 have lz:o.op.nth=s.has a a+1:=by rw[N];rfl
 rw[<-N];have bu:=h.own a C;have hg0:=(h.vW a C).1;have hle:∀y∈c a,y.op.id.1<=s.gt a:=fun y q=>by
  have RK:nc b c y:=⟨a,C,q⟩;obtain⟨i,x,e,b2,a2,_⟩:=h.made.at C q;exact(h.copy a C).yH y (((h.copy a C).mem h.made RK).2 (by rw[show y.op.id.2.toNat=a by omega];omega))
 have aii:iO b (qK c a o):=by
  refine⟨fun e n i x=> ?_,fun e n=> ?_,fun e n=> ?_⟩
  ·by_cases r:e=a
   ·subst r;simp only[oa]at x⊢;rw[ap4,aq1]at x;by_cases S:i<(c e).length
    ·rw[arv S];exact h.made.id e n i S
    have F:i=(c e).length:=by omega
    subst F;rw[List.getElem_append_right (apX _)];simp only[Nat.sub_self,asJ];omega
   simp only[sn _ _ r]at x⊢;exact h.made.id e n i x
  ·by_cases r:e=a
   ·subst r;rw[oa,ap4,aq1];omega
   rw[sn _ _ r];exact h.made.len e n
  by_cases r:e=a
  ·subst r;rw[oa];refine arc.2 ⟨h.made.jB e n,asb _ _,fun j z k B=> ?_⟩;obtain rfl:=ap9.1 B;have :=hle j z;omega
  rw[sn _ _ r];exact h.made.jB e n
 have P:∀j i,s.has j i<=upd s.has a (upd (s.has a) a (s.has a a+1)) j i:=fun j i=>by
  by_cases U:j=a
  ·subst U;rw[bF];by_cases W:i=j
   ·subst W;rw[bF];omega
   rw[b6 _ _ W];simp
  rw[b6 _ _ U];simp
 have X:∀d,d<b->∀l,tw b c (s.has d) d l->tw b (qK c a o) (upd s.has a (upd (s.has a) a (s.has a a+1)) d) d l:=fun d w l E=>by
  refine⟨fun i x=>⟨(E.1 i x).1,aro (E.1 i x).2 (P d i)⟩,fun y q D e n g u Y=> ?_⟩;have Q:g∈c e:=by
   by_cases r:e=a
   ·subst r;rw[oa]at u;rcases ap7.1 u with u|u
    ·exact u
    exfalso;obtain rfl:=ap9.1 u;have h1:=(E.1 e n).2;have h2:=((h.copy d w).km e n).2;omega
   rw[sn _ _ r]at u;exact u
  by_cases I:d=a
  ·subst I;rw[oa]at q;rcases ap7.1 q with q|q
   ·exact E.2 y q D e n g Q Y
   obtain rfl:=ap9.1 q;obtain⟨i,x,_,b2,a2,_⟩:=h.made.at n Q;have h1:=(E.1 e n).2;have :=(h.copy d w).yH g (((h.copy d w).mem h.made ⟨e,n,Q⟩).2 (by rw[show g.op.id.2.toNat=e by omega];omega));omega
  rw[sn _ _ I]at q;exact E.2 y q D e n g Q Y
 have bA:∀d,d<b->∀m,Ep b c (s.has d) d m->Ep b (qK c a o) (upd s.has a (upd (s.has a) a (s.has a a+1)) d) d m:=fun d w m=>by
  cases m with
  |inl l=>exact X d w (rowOf l)
  |inr _=>exact fun _=>trivial
 refine⟨aii,fun e n=> ?_,fun e n=> ?_,fun e n=> ?_,fun e n=> ?_,fun e n y q=> ?_,fun j k z B L m R=>(h.msgs j k z B L m R).add,fun e n=> ?_,fun j k z B L m R=>bA j z m (h.tx j k z B L m R),fun j k z B L=>X k B _ (h.Er j k z B L),fun e n g u d w=>aro (h.Es e n g u d w) (P d _),fun e n g u d w y q D=> ?_⟩
 ·unfold l5;by_cases r:e=a
  ·subst r;simp only[bF];refine⟨fun i x=> ?_,?_,fun y q=> ?_,fun p ah=>⟨((h.copy e n).Gm p ah).1.add,((h.copy e n).Gm p ah).2⟩,(h.copy e n).RG⟩
   ·by_cases F:i=e
    ·subst F;rw[bF,oa,ap4,aq1];omega
    rw[b6 _ _ F,sn _ _ F];exact(h.copy e n).km i x
   ·have :=Y6 (o:=o) (h.copy e n).km bu b (apX _);rw[if_pos n]at this;exact((h.copy e n).perm.append_right _).trans this.symm
   rcases ap7.1 q with q|q
   ·have :=(h.copy e n).yH y q;omega
   obtain rfl:=ap9.1 q;omega
  simp only[b6 _ _ r];exact(h.copy e n).add a o
 ·unfold l5;by_cases r:e=a
  ·subst r;simp only[bF];rw[oa,ap4,aq1];omega
  simp only[b6 _ _ r];rw[sn _ _ r];exact h.own e n
 ·unfold l5;by_cases r:e=a
  ·subst r;simp only[bF];refine arc.2 ⟨h.jB e n,asb _ _,fun j z k B=> ?_⟩;obtain rfl:=ap9.1 B;have :=(h.copy e n).yH j z;exact(qz _ _).2 (.inl (by omega))
  simp only[b6 _ _ r];exact h.jB e n
 ·unfold l5;by_cases r:e=a
  ·subst r;simp only[bF];refine⟨by omega,fun g u _=> ?_⟩;have :=u e n o (by rw[oa];simp);omega
  simp only[b6 _ _ r];obtain⟨g0,g1⟩:=h.vW e n;exact⟨g0,fun g u h0=>g1 g (fun f aD y q=>u f aD y (Y2 q)) h0⟩
 ·rw[Y4,if_pos C];by_cases r:e=a
  ·subst r;rw[oa]at q;rcases ap7.1 q with q|q
   ·have :=h.cnt e n y q;omega
   obtain rfl:=ap9.1 q;have :=(h.vW e n).2 (vV c b) h.cnt (aqc _);omega
  rw[sn _ _ r]at q;have :=h.cnt e n y q;omega
 ·unfold l5;by_cases r:e=a
  ·subst r;simp only[bF];rw[h.l3 e n,aqs]
  simp only[b6 _ _ r];exact h.l3 e n
 replace D:upd s.has a (upd (s.has a) a (s.has a a+1)) e d<y.op.nth:=D;by_cases I:d=a
 ·subst I;rw[oa]at q;rcases ap7.1 q with q|q
  ·exact h.Et e n g u d w y q (Int.lt_of_le_of_lt (P e d) D)
  obtain rfl:=ap9.1 q;have c8:g∈s.ops e:=by rw[h.l3 e n];exact aq3 _ u
  have qI:=(h.copy e n).made c8;have :=(h.copy d w).yH g (((h.copy d w).mem h.made qI).2 (h.Es e n g u d w));omega
 rw[sn _ _ I]at q;exact h.Et e n g u d w y q (Int.lt_of_le_of_lt (P e d) D)
theorem B8.wrote(h:B8 b c)(l:I1 (c a) d.op.chg):B8 b (qK c a d):=fun e g i f=>by
 by_cases j:e=a
 ·subst j;simp only[oa]at f⊢;rw[ap4,aq1]at f;by_cases k:i<(c e).length
  ·rw[arv k,arf (by omega)];exact h e g i k
  have m:i=(c e).length:=by omega
  simp_all
 simp only[sn _ _ j]at f⊢;exact h e g i f
end
section
open Go.RowKit Tryz
attribute [local go_sem ↓] Go.wp_at_zero Go.wp_at_succ
variable {a e f i:Nat}{b h:Nat->Prop}{c:World}{d:bn}
theorem B7.after{W k l m g}(n:c6 b l c W)(o:B3 h m c W)(i:B7 g a e f l m W k d):B7 g a e f b h c k d:=by
 obtain⟨p,q,r,s,⟨t,u⟩,j⟩:=i;exact⟨p,q,r,s,⟨n.trans t,o.trans u n.size⟩,j⟩
theorem Y8{w F x M}(h:ec w f F b e i d x)(ok:ev e M d){c:Nat}(s:c<e)(o:a<e)(z:c≠a){m:hp}{Y:List hp}(L:d.ms c a=m::Y):
  ∃v l,hq w (x.gl c a) (x.gc c a) (v::l) (d.sh c a) (x.rq c a) (x.tt c a)/\O 75 #[Z f,v,A c,A a] (w.setChan (x.gc c a) 12 l.toArray (d.sh c a) (x.rq c a) (x.tt c a+1) false) fun n w'=>(∃u,n=.returned u)/\∃D,tz e d c a D/\B7 x.gc f e i F b w w' D:=by
 have hN:=h.hN;obtain⟨t,v,l,aF,h1,h2,_,_⟩:=h.first s o z L
 have N:=h.link c a s o z;rw[aF]at N;refine⟨_,l,N,?_⟩;have P:=IM w (x.gc c a) 12 l.toArray (d.sh c a) (x.rq c a) (x.tt c a+1) false;have l6:=h.Em s o z N.taken P h2;have po:=MC (F:=F) (apY _ _) P (h.dq c a s o z).2;have r:=fun k B=>po.other k (h.cx k B) (h.eC k B)
 have nb:=h1.ft r P.size (fun _ y=>y);have E:=ok.msgs c a s o z m (by simp_all);have Q:ev e M (ja d c a Y):=ok.ms (fun R S=>ok.msgs c a s o z R (by rw[L];exact aqh _ S)) (fun R S=>ok.tx c a s o z R (by rw[L];exact aqh _ S));have Cb:∀j,j<e->0<=d.has a j/\d.has a j<=60:=fun j r=>by
  have aj:=(ok.copy a o).km j r;have aw:=ok.made.len j r;omega
 have c8:∀{w':World} {D:bn},B7 x.gc f e i F b (w.setChan (x.gc c a) 12 l.toArray (d.sh c a) (x.rq c a) (x.tt c a+1) false) w' D->B7 x.gc f e i F b w w' D:=fun nW=>nW.after po ⟨fun k B=>⟨B,r k B⟩,fun _ B=>.inl B⟩
 unfold tz;rw[L];cases m with
 |inl q=>
  obtain⟨g,B4,n,hW,tp⟩:=nb;obtain⟨BP,Ru⟩:=E;rw[BP]at n hW;rw[n];refine(ah7 l6 s o z hW tp (fun j r=>⟨(Ru j r).1,(Cb j r).2⟩) (fun j r=>by
   have aw:=ok.made.len j r;have :=(Ru j r).2;omega) (fun y I=>(ok.copy a o).copy ok.made ((ok.MH o).subset I)) (((ok.copy a o).ahZ ok.made).sublist ((ok.MH o).map _))).mono ?_
  rintro n w4 ⟨U,ls,C,av,W⟩;exact⟨U,_,⟨ls,C,av,rfl⟩,c8 W⟩
 |inr xs=>
  obtain⟨apP,n,FK⟩:=nb;rw[n];obtain⟨X,hn⟩:=Q.wait o E;obtain⟨qE,hlen⟩:=Q.fin o E;refine(ah8 l6 s o z xs FK (fun y I=>(ok.made.nth (E y I)).2.2) hn (fun p C=>by
   rw[(X p C).2];exact(ok.made.nth (X p C).1).2.1) (fun j r=>by have :=Cb j r;exact⟨this.1,by show d.has a j<=1000;omega⟩) qE (ap0 hlen (by omega)) (Q.ahead o E) (fun y I=>by
   obtain⟨p,C,rfl⟩:=Ml I;exact(ok.made.nth (X p C).1).2.2)).mono ?_
  rintro n w4 ⟨U,iM,fF,W⟩;exact⟨U,_,⟨iM,fF,rfl⟩,c8 W⟩
def aij (r N b:Nat) (F I:Nat->Prop) (s:bn) (c d:Nat) (w:World) (e:Ending) (f:World):Prop:=e=.returned (A (if s.ms c d=[] then 12 else 0))/\∃a,tz N s c d a/\vT r N b F I w f a
theorem aik{q x M}(j:ec c i b h a q d x)(ok:ev a M d)(r:e<a)(s:f<a)(t:e≠f):
  O 39 #[Z i,A e,A f] c fun g w=>aij i a q b h d e f c g w:=by
 have k:=aa (MB j r s t);cases n:d.ms e f with
 |nil=>
  rw[if_pos n]at k;have p:=aa n;have y:=j;go_enter func39,ntmps39;go_wp2_with fail
  refine k.o.mono ?_;rintro g S ⟨rfl,rfl⟩;go_wp2;go_ret
  exact(show _/\_ from⟨by rw[if_pos p.o];rfl,d,(by unfold tz;rw[p.o]),y.same (apY _ _)⟩)
 |cons m U=>
  obtain⟨v,l,z,B⟩:=Y8 j ok r s t n;rw[if_neg (by simp_all)]at k;have p:=aa n;have C:=Mz z;have D:=B;go_enter func39,ntmps39;go_wp2_with fail
  refine k.o.mono ?_;rintro g W ⟨rfl,rfl⟩;go_wp2_with fail
  refine C.mono ?_;rintro g X ⟨rfl,rfl⟩;go_wp2_with fail
  refine D.mono ?_;rintro g Y ⟨⟨v4,rfl⟩,E,F,I⟩;have u:=aa (And.intro F I);go_wp2;go_ret
  obtain⟨L,N,P,Q,R,_⟩:=u.o.2;exact(show _/\_ from⟨by rw[p.o];rfl,E,u.o.1,L,N,P,Q,R⟩)
end
section
open Go.RowKit Tryz
variable {a e h i:Nat}{b:Nat->List ar}{c f:Nat->Prop}{d:bn}{j:World}{k:cI}
structure dL (w:World) (r:Nat) (F I:Nat->Prop) (N sp:Nat) (M:Nat->List ar) (s:bn) (x:cI):Prop where
 m:ec w r F I N sp s x
 ok:ev N M s
 md:B8 N M
theorem ML {α:Type} [DecidableEq α]:∀{l m:List α},l.Nodup->(∀a∈l,a∈m)->l.length<=m.length
 |[],_,_,_=>apZ _
 |a::l,m,h,c=>by
  obtain⟨f,d⟩:=aqw.1 h;have :=ML (m:=m.erase a) d fun b g=>by
   have i:b≠a:=fun e=>by simp_all
   simp_all
  rw[List.length_erase_of_mem (c a aqf)]at this;have j:=List.length_pos_of_mem (c a aqf);simp only[aqk];omega
theorem ail{R D j}(k:e1 R D)(w:fH D)(x:pk R j)(S:j.length<=10000)(c:PId)(r:ByteArray)(s:PId):(eZ D.1 D.2 c r s).aC.length<=10000/\((eZ D.1 D.2 c r s).aC.map (·.1)).Nodup:=by
 have z:∀(l:List (PId×dU)) (d:List cP),l.Perm (d.map mW)->(l.map (·.1)).Nodup->(∀y∈d,y.cQ∈j)->l.length<=10000:=fun l d f b F=>by
  have :=ML (m:=j) b fun a I=>by
   obtain⟨p,L,rfl⟩:=ap5.1 I;obtain⟨y,g,rfl⟩:=ap5.1 (f.mem_iff.1 L);exact F y g
  rw[ap2]at this;omega
 unfold eZ;split
 ·rename_i t
  split
  ·split
   ·rename_i e u
    have b:=w.mQ _ (fL u);refine⟨?_,b⟩;obtain⟨o,h,v,M⟩:=k.el s e u;obtain⟨n,d,N⟩:=ap5.1 M;obtain⟨_,_,q⟩:=k.bh _ o h;obtain⟨_,_,U,B,_,f⟩:=q.elems v n d;rw[N,u]at B;cases B;exact z _ _ f b (x.cQ _ o h n d)
   simp
  rename_i P
  split
  ·rename_i W i
   split
   ·rename_i X C
    have b:=w.fG _ (fL i) _ (fL C);refine⟨?_,b⟩;cases h:bt R c with
    |none=>rw[k.gW c h]at i;cases i
    |some o=>
     obtain⟨Y,E,q⟩:=k.bh c o h;rw[i]at E;cases E;have v:o.list=false:=by
      unfold lE at t;rw[if_neg P,i]at t;simp only[arV,Bool.true_and,nr,i,Bool.not_eq_true']at t;rw[<-q.list];omega
     have f:=q.FT v r;rw[C]at f;refine z _ _ f b fun y g=> ?_
     unfold hg at g;split at g
     ·rename_i n Q
      exact x.cQ c o h n (arz Q) y g
     cases g
   simp
  simp
 simp
theorem dL.doc{I}(g:dL j h c I e i b d k)(l:a<e):e1 (cq (d.ops a)) (k.q a).D/\fH (k.q a).D/\pk (cq (d.ops a)) (((d.ops a).map fun o=>o.op.id).reverse):=by
 have n:=(g.m.eK a l).jT.did;rw[<-ap2 (f:=fun o:ar=>o.op),ari]at n;obtain⟨r,s,_,t⟩:=g.m.ko a l;have p:mT (k.q a).D0.1 ((k.q a).D0.2++(d.kept a).map (·.op)) (k.q a).D:=n;rw[t,<-aqi,<-g.m.l3 a l]at p;exact aih r s (YU g.ok.made g.md (g.ok.copy a l) (g.ok.jB a l)) p
theorem dL.ko(g:dL j h c f e i b d k)(l:a<e):e1 (cq (d.ops a)) (k.q a).D:=(g.doc l).1
theorem dL.len{w r F I N a M s x}(h:dL w r F I N a M s x){c:Nat}(b:c<N):(s.ops c).length<=240:=by
 have d:=(h.ok.copy c b).len h.ok.made;have e:=h.m.hN;omega
theorem dL.uN(g:dL j h c f e i b d k)(r:a<e):Gq a (d.gt a) (d.has a) (d.kept a) (k.q a):=by
 have u:=g.len r;have s:=g.ok.MH r;have v:=s.length_le;have w:=g.m.hN;have x:=Y5 g.ok.made.len e (apX _);have y:=(g.ok.vW a r).2 (vV b e) g.ok.cnt (aqc _);have z:=g.ok.made.len a r;have B:=g.ok.own a r;refine⟨⟨(g.ok.vW a r).1,by omega⟩,⟨by omega,by omega⟩,fun o t=>(g.ok.copy a r).yH o (s.subset t),by omega,?_⟩;obtain⟨l,n,p⟩:=g.doc r;exact ail l n p (by rw[List.length_reverse,ap2];omega)
theorem dL.hr{w s x}(g:dL w i c f h s b d x)(k:e<h){y:PId}{o:bg}(l:bt (cq (d.ops e)) y=some o)(n:o.list=true):o.ss.length<=300:=by
 obtain⟨a,_,j⟩:=g.doc k;obtain⟨u,v,p⟩:=a.bh y o l;have B:=g.len k;have :=ML (m:=((d.ops e).map fun o=>o.op.id).reverse) (p.DJ n) fun z t=>by
  obtain⟨q,r,rfl⟩:=ap5.1 t;exact(j.slot y o l q r).resolve_left (p.elems n q r).2.1
 rw[ap2,List.length_reverse,ap2]at this;omega
theorem dL.ae{w r F I N a M s x}(h:dL w r F I N a M s x){w':World}(b:J w w'):dL w' r F I N a M s x:=⟨h.m.ae b,h.ok,h.md⟩
end
section
open Go.RowKit Tryz
attribute [local go_sem ↓] Go.wp_at_zero Go.wp_at_succ
variable {a c j l:Nat}{b r:World}{d:Nat->List ar}{e i:Nat->Prop}{f:bn}{h:cI}{k:List bg}{m:PId}{n:Int}{q:bg}
theorem aim(s:ByteArray)(w:World)(m:s.size<=maxLen):
  O 83 #[.string s] w fun e l=>e=.returned (.bool (kr s))/\l=w:=by
 by_cases c:0<s.size
 ·by_cases d:s.size<=4
  ·go_enter func83,ntmps83;go_wp2;go_loop [14] (fun i=>∃k:Nat,k<=s.size/\i=A k/\Hq (letters (s.data.toList.take k)=true)) (fun i=>s.size-(intOf i).toNat)
   case atStart=>exact⟨0,apZ _,rfl,rfl⟩
   case round=>
    obtain⟨k,n,rfl,f⟩:=hrel;by_cases b:k<s.size
    ·by_cases g:(97:Int)<=s[k].toNat
     ·by_cases j:(s[k].toNat:Int)<=122
      ·have a:=aa (TH b f.o g j);go_wp2;go_round
       case rel=>exact⟨k+1,by omega,by go_num,a⟩
       case measure=>simp[intOf];omega
      have a:Hq _:=KB b (fun h=>j h.2);go_wp2;go_ret
      exact⟨mf a.o.symm,rfl⟩
     have a:Hq _:=KB b (fun h=>g h.1);go_wp2;go_ret
     exact⟨mf a.o.symm,rfl⟩
    have e:letters s.data.toList=true:=by
     have :=f.o;rwa [aql (by simp;omega)]at this
    have a:=aa (show kr s=true by unfold kr;rw[e];simp[c,d]);go_wp2;go_ret
    exact⟨mf a.o.symm,rfl⟩
  have a:=aa (show kr s=false by unfold kr;simp[d]);go_enter func83,ntmps83;go_wp2;go_ret
  exact⟨mf a.o.symm,rfl⟩
 have a:=aa (show kr s=false by unfold kr;simp[c]);go_enter func83,ntmps83;go_wp2;go_ret
 exact⟨mf a.o.symm,rfl⟩
theorem Zc(a b:Int)(c:ByteArray)(w:World):O 84 #[.agg #[A a,A b],.string c] w fun e d=>e=.returned (.agg #[A a,A b,.string c,A 0,A 0])/\J w d:=by
 go_enter func84,ntmps84;go_wp2;refine bodyPost_ret (v:=.agg #[A a,A b,.string c,A 0,A 0]) (by simp[results,results84,go_sem]) rfl ?_;exact⟨rfl,((apY w.heap.size w).alloc (apX _) (.cells #[A a,A b] 36)).alloc (by simp) (.cells #[A a,A b,.string c,A 0,A 0] 97)⟩
theorem MM(a b c d:Int)(w:World):O 63 #[.agg #[A a,A b],.agg #[A c,A d]] w fun e f=>e=.returned (.agg #[A a,A b,.string ⟨#[]⟩,A c,A d])/\J w f:=by
 go_enter func63,ntmps63;go_wp2;refine bodyPost_ret (v:=.agg #[A a,A b,.string ⟨#[]⟩,A c,A d]) (by simp[results,results63,go_sem]) rfl ?_;exact⟨rfl,(((apY w.heap.size w).alloc (apX _) (.cells #[A a,A b] 36)).alloc (by simp) (.cells #[A c,A d] 36)).alloc (by simp;omega) (.cells #[A a,A b,.string ⟨#[]⟩,A c,A d] 97)⟩
theorem e1.has{D}(h:e1 k D)(x:PId):(bC x D.1).isSome=(bt k x).isSome:=by
 cases a:bt k x with
 |none=>rw[h.gW x a];rfl
 |some o=>obtain⟨c,b,_⟩:=h.bh x o a;rw[b];rfl
theorem e1.aQ{D}(h:e1 k D)(a:bt k m=some q):nr m D.1=q.list:=by
 obtain⟨d,b,c⟩:=h.bh m q a;unfold nr;rw[b];exact c.list
def Zd (R:List bg) (x:PId) (a:Bool) (b:Nat) (e:Ending):Prop:=
 (∃m,(m=3\/m=4)/\oQ R x a=.error m/\e=.returned (.tuple #[.pointer none,A m]))\/∃o,bt R x=some o/\o.list=a/\e=.returned (.tuple #[Z b,A 0])
theorem MN{M x}(h:dL b a e i c j M f x)(l:Nat)(S:l<c)(n p:Int)(r:Bool):
  O 56 #[Z a,A l,.agg #[A n,A p],.bool r] b fun g z=>J b z/\Zd (cq (f.ops l)) (n,p) r (x.eo l) g:=by
 have I:=h.m.eK l S;have Cc:=h.ko S;have t:=aa ((apY b.heap.size b).alloc (apX _) (.cells #[A n,A p] 36));have L:=aa (bI b (.cells #[A n,A p] 36));have dd:=aa (RC (h.m.ae t.o) l S);have U:=aa (fun W (B:J b W)=>yw (I.ae B));have N:=aa (show ∀W,J b W->O 89 #[Z ((x.q l).d),.agg #[A n,A p]] W fun g z=>g=.returned (.bool (bt (cq (f.ops l)) (n,p)).isSome)/\J W z from fun W B=>by
  rw[<-Cc.has];exact HF (I.jT.q.ae B) n p)
 have X:=aa (show ∀o,bt (cq (f.ops l)) (n,p)=some o->∀W,J b W->O 90 #[Z ((x.q l).d),.agg #[A n,A p]] W fun g z=>g=.returned (.bool o.list)/\J W z from fun o af W B=>by
  rw[<-Cc.aQ af];exact zl (I.jT.q.ae B) n p)
 have bT:=Im (cq (f.ops l)) (n,p) r;clear I h;generalize cq (f.ops l)=R at *;unfold Zd;rcases bT with⟨s,P⟩|⟨o,k,s,P,al⟩
 ·rw[s]at N;have C:=aa (And.intro s P);clear s P X;go_enter func56,ntmps56;go_wp2_with fail
  refine dd.o.mono ?_;rintro g w0 ⟨rfl,Y⟩;subst Y;go_wp2_with fail
  go_region_held3 (fun W=>W.cell? (V b 0)=some (A n)/\W.cell? (V b 1)=some (A p)) (first |exact bl L.o|exact bl D.o|exact bl E.o)
   (first
    |(go_at_call 48;refine(U.o _ t.o.drew).mono ?_;rintro g w1 ⟨rfl,u⟩;have E:=aa (bj L.o (Hq.o (mx u)));have v:=aa (t.o.drew.trans (u.mono t.o.size));clear u)
    |(go_at_call 89;refine(N.o w1 v.o).mono ?_;rintro g w2 ⟨rfl,w⟩;have D:=aa (bj E.o w);have F:=aa (v.o.trans (w.mono v.o.size));clear w))
  all_goals go_wp2
  all_goals go_ret2
  all_goals exact⟨F.o,.inl ⟨3,.inl rfl,C.o.2,rfl⟩⟩
 rw[s]at N;have sX:=aa (X.o o s);clear X;have C:=aa (And.intro s al);clear s P al;obtain⟨y,bz⟩:∃y,o.list=y:=⟨_,rfl⟩;rw[bz]at sX;have ml:=aa bz;clear bz;have H4:(y=r/\bt R (n,p)=some o/\o.list=r)\/(y≠r/\oQ R (n,p) r=.error 4):=by
  by_cases g:y=r
  ·exact .inl ⟨g,C.o.1,ml.o.trans g⟩
  refine .inr ⟨g,?_⟩;rw[C.o.2,if_neg (by rw[ml.o];exact g)]
 have qL:=aa H4;clear H4 C ml;cases y<;>cases r
 all_goals go_enter func56,ntmps56
 all_goals go_wp2_with fail
 all_goals refine dd.o.mono ?_
 all_goals rintro g w0 ⟨rfl,Y⟩
 all_goals subst Y
 all_goals go_wp2_with fail
 all_goals(go_region_held3 (fun W=>W.cell? (V b 0)=some (A n)/\W.cell? (V b 1)=some (A p)) (first |exact bl L.o|exact bl D.o|exact bl E.o)
  (first
   |(go_at_call 48;refine(U.o _ t.o.drew).mono ?_;rintro g w1 ⟨rfl,u⟩;have E:=aa (bj L.o (Hq.o (mx u)));have v:=aa (t.o.drew.trans (u.mono t.o.size));clear u)
   |(go_at_call 89;refine(N.o w1 v.o).mono ?_;rintro g w2 ⟨rfl,w⟩;have D:=aa (bj E.o w);have F:=aa (v.o.trans (w.mono v.o.size));clear w)))
 all_goals go_wp2_with fail
 all_goals(go_region_held3 (fun W=>W.cell? (V b 0)=some (A n)/\W.cell? (V b 1)=some (A p)) (first |exact bl D.o|exact bl fO.o|exact bl ek.o)
  (first
   |(go_at_call 48;refine(U.o _ F.o.drew).mono ?_;rintro g w3 ⟨rfl,bb⟩;have ek:=aa (bj D.o (Hq.o (mx bb)));have bB:=aa (F.o.drew.trans (bb.mono F.o.size));clear bb)
   |(go_at_call 90;refine(sX.o w3 bB.o).mono ?_;rintro g w4 ⟨rfl,gp⟩;have fO:=aa (bj ek.o gp);have fx:=aa (bB.o.trans (gp.mono bB.o.size));clear gp)))
 all_goals go_wp2
 all_goals go_ret2
 all_goals(
  refine⟨fx.o,?_⟩;rcases qL.o with⟨g,Q⟩|⟨g,Q⟩
  ·first
    |exact .inr ⟨o,Q.1,Q.2,rfl⟩
    |(exact absurd g (by decide))
  first
   |exact .inl ⟨4,.inr rfl,Q,rfl⟩
   |(exact absurd rfl g))
theorem ain{key:ByteArray}(h:oQ k m false=.error n):lS k m key=.error n:=by unfold lS;rw[h]
theorem Ae{key:ByteArray}(c:bt k m=some q)(d:q.list=false):lS k m key=if kr key then .ok (hg q key (0,0)) else .error 5:=by
 unfold lS;rcases Im k m false with⟨b,_⟩|⟨g,a,b,e,f⟩
 ·rw[c]at b;cases b
 rw[c]at b;cases b;rw[f,if_pos d];simp only[e]
theorem MO(h:oQ k m true=.error n):iF k m=.error n:=by unfold iF;rw[h]
theorem rv(c:bt k m=some q)(d:q.list=true):iF k m=.ok (dB q):=by
 unfold iF;rcases Im k m true with⟨b,_⟩|⟨g,a,b,e,f⟩
 ·rw[c]at b;cases b
 rw[c]at b;cases b;rw[f,if_pos d];simp only[e]
theorem xh(h:Below c b r)(j:c<=a)(f g i d e:Value):Below c b (((((r.setCell (H a) f).setCell (K a 1) g).setCell (K a 2) i).setCell (K a 3) d).setCell (K a 4) e):=
 ((((h.setCell j f).setCell j g).setCell j i).setCell j d).setCell j e
def aio (R:List bg) (x:PId) (a:ByteArray) (b:Nat) (e:Ending):Prop:=
 (∃m,(m=3\/m=4\/m=5)/\lS R x a=.error m/\e=.returned (.tuple #[.pointer none,.agg #[A 0,A 0,.string ⟨#[]⟩,A 0,A 0],A m]))\/
 ∃o,bt R x=some o/\o.list=false/\kr a=true/\lS R x a=.ok (hg o a (0,0))/\e=.returned (.tuple #[Z b,.agg #[A x.1,A x.2,.string a,A 0,A 0],A 0])
theorem MP(l:dL b a e i c j d f h)(g:Nat)(P:g<c)(n p:Int)(key:ByteArray)(Q:key.size<=maxLen):
  O 46 #[Z a,A g,.agg #[A n,A p],.string key] b fun k w'=>J b w'/\aio (cq (f.ops g)) (n,p) key (h.eo g) k:=by
 have x:=aa (((apY b.heap.size b).alloc (apX _) (.cells #[A n,A p] 36)).alloc (by simp) (.cells #[A 0,A 0,.string ⟨#[]⟩,A 0,A 0] 97));have S:=aa (show((b.alloc (.cells #[A n,A p] 36)).alloc (.cells #[A 0,A 0,.string ⟨#[]⟩,A 0,A 0] 97)).heap[b.heap.size]?=some (.cells #[A n,A p] 36 (0,0)) from(hK _ _ (by simp)).trans (bI b _));have U:=aa (show((b.alloc (.cells #[A n,A p] 36)).alloc (.cells #[A 0,A 0,.string ⟨#[]⟩,A 0,A 0] 97)).heap[b.heap.size+1]?=some (.cells #[A 0,A 0,.string ⟨#[]⟩,A 0,A 0] 97 (0,0)) from(by
  have :=bI (b.alloc (.cells #[A n,A p] 36)) (.cells #[A 0,A 0,.string ⟨#[]⟩,A 0,A 0] 97);rw[show(b.alloc (.cells #[A n,A p] 36)).heap.size=b.heap.size+1 by simp]at this;exact this))
 have X:=aa (MN (l.ae x.o) g P n p false);clear l;generalize cq (f.ops g)=R at *;have Y:=aa (fun W=>aim key W Q);go_enter func46,ntmps46;go_wp2_with fail
 refine X.o.mono ?_;rintro k w1 ⟨t,Ew⟩;have bW:=aa (bj S.o t);have u:=aa (bj U.o t);have q:=aa (x.o.trans (t.mono x.o.size));clear t;obtain⟨I5,I6⟩:=bl bW.o;obtain⟨D,E,F,I,L⟩:=gb u.o;have nQ:=cG u.o;have I7:=aN u.o;rcases Ew with⟨m,hm,M,rfl⟩|⟨o,y,z,rfl⟩
 ·have r:=aa (ain (key:=key) M);clear M;rcases hm with rfl|rfl
  all_goals go_wp2
  all_goals refine bodyPost_ret (v:=.tuple #[.pointer none,.agg #[A 0,A 0,.string ⟨#[]⟩,A 0,A 0],A _]) (by simp[results,results46,go_sem,D,E,F,I,L];rfl) rfl ?_
  ·exact⟨xh q.o (by omega) _ _ _ _ _,.inl ⟨3,.inl rfl,r.o,rfl⟩⟩
  exact⟨xh q.o (by omega) _ _ _ _ _,.inl ⟨4,.inr (.inl rfl),r.o,rfl⟩⟩
 have r:=aa (Ae (key:=key) y z);have N:=aa (And.intro y z);clear y z;go_wp2_with fail
 refine(Y.o _).mono ?_;rintro k w2 ⟨rfl,eJ⟩;subst eJ;cases s:kr key
 ·have w:=aa (show lS R (n,p) key=.error 5 by rw[r.o,s];simp);clear s;go_wp2;refine bodyPost_ret (v:=.tuple #[.pointer none,.agg #[A 0,A 0,.string ⟨#[]⟩,A 0,A 0],A 5]) (by simp[results,results46,go_sem,D,E,F,I,L]) rfl ?_;exact⟨xh q.o (by omega) _ _ _ _ _,.inl ⟨5,.inr (.inr rfl),w.o,rfl⟩⟩
 have w:=aa (show kr key=true/\lS R (n,p) key=.ok (hg o key (0,0)) from⟨s,by rw[r.o,s];simp⟩);clear s;go_wp2_with fail
 refine(Zc n p key _).mono ?_;rintro k w3 ⟨rfl,B⟩;have C:=aa (bj u.o B);have bB:=aa (q.o.trans (B.mono q.o.size));clear B;obtain⟨z0,z1,z2,z3,z4⟩:=gb C.o;have B9:=cG C.o;have apQ:=aN C.o;go_wp2;refine bodyPost_ret (v:=.tuple #[Z (h.eo g),.agg #[A n,A p,.string key,A 0,A 0],A 0]) (by simp[results,results46,go_sem,z0,z1,z2,z3,z4]) rfl ?_;exact⟨xh bB.o (by omega) _ _ _ _ _,.inr ⟨o,N.o.1,N.o.2,w.o.1,w.o.2,rfl⟩⟩
def aip (R:List bg) (x:PId) (i:Int) (a:Nat) (e:Ending):Prop:=
 (∃m,(m=3\/m=4)/\iF R x=.error m/\e=.returned (.tuple #[.pointer none,A m]))\/
 ∃o,bt R x=some o/\o.list=true/\iF R x=.ok (dB o)/\((jN (dB o) i=none/\e=.returned (.tuple #[.pointer none,A 7]))\/∃b,jN (dB o) i=some b/\e=.returned (.tuple #[Z a,A 0]))
def aiq (R:List bg) (x:PId) (i:Int) (a:Nat) (e:Ending):Prop:=
 (∃m,(m=3\/m=4)/\iF R x=.error m/\e=.returned (.tuple #[.pointer none,.agg #[A 0,A 0,.string ⟨#[]⟩,A 0,A 0],A m]))\/
 ∃o,bt R x=some o/\o.list=true/\iF R x=.ok (dB o)/\(((i<0\/((dB o).length:Int)<=i)/\e=.returned (.tuple #[.pointer none,.agg #[A 0,A 0,.string ⟨#[]⟩,A 0,A 0],A 7]))\/(¬(i<0\/((dB o).length:Int)<=i)/\∃y,(dB o)[i.toNat]?=some y/\e=.returned (.tuple #[Z a,.agg #[A x.1,A x.2,.string ⟨#[]⟩,A y.1,A y.2],A 0])))
theorem RP{l:List PId}:jN l n=none↔(n<0\/(l.length:Int)<n):=by
 unfold jN;by_cases h:n<0\/n>(l.length:Int)
 ·rw[if_pos h];exact⟨fun _=>h,fun _=>rfl⟩
 rw[if_neg h];constructor
 ·intro a;split at a
  ·cases a
  rw[List.getElem?_eq_none_iff]at a;omega
 intro a;exact absurd a h
theorem Ze{x}(h:dL b a e i c j d f x)(g:Nat)(y:g<c)(t v k:Int):
  O 59 #[Z a,A g,.agg #[A t,A v],A k] b fun l w'=>J b w'/\aip (cq (f.ops g)) (t,v) k (x.eo g) l:=by
 have E:=h.m.eK g y;have S:=h.ko y;have z:=aa ((apY b.heap.size b).alloc (apX _) (.cells #[A t,A v] 36));have U:=aa (bI b (.cells #[A t,A v] 36));have X:=aa (MN (h.ae z.o) g y t v true);have gL:=aa (fun W (F:J b W)=>yw (E.ae F));have Y:=aa (fun o (q:bt (cq (f.ops g)) (t,v)=some o) (D:o.list=true)=>E.elements S q D (ap0 (h.hr y q D) (by omega)));have sM:=aa (show ∀o,bt (cq (f.ops g)) (t,v)=some o->o.list=true->(dB o).length<=300 from fun o q D=>by
  have h1:=h.hr y q D;have al:(dB o).length<=o.ss.length:=by unfold dB;rw[ap2];exact aqR _ _
  omega)
 clear h E S;generalize cq (f.ops g)=R at *;by_cases I:k<0
 ·have hdi:decide (k<0)=true:=decide_eq_true I;go_enter func59,ntmps59;go_wp2_with fail
  refine X.o.mono ?_;rintro l w1 ⟨w,L⟩;have B:=aa (bj U.o w);have r:=aa (z.o.trans (w.mono z.o.size));clear w;obtain⟨I5,I6⟩:=bl B.o;rcases L with⟨m,M,C,rfl⟩|⟨o,q,s,rfl⟩
  ·have p:=aa (MO C);clear C;rcases M with rfl|rfl
   ·go_wp2;go_ret2
    exact⟨r.o,.inl ⟨3,.inl rfl,p.o,rfl⟩⟩
   go_wp2;go_ret2
   exact⟨r.o,.inl ⟨4,.inr rfl,p.o,rfl⟩⟩
  have p:=aa (And.intro q (And.intro s (rv q s)));clear q s;go_wp2_with fail
  go_quiet (fail)
  go_wp2;go_ret2
  exact⟨below_drewN r.o _,.inr ⟨o,p.o.1,p.o.2.1,p.o.2.2,.inl ⟨RP.2 (.inl I),rfl⟩⟩⟩
 have hdi:decide (k<0)=false:=decide_eq_false I;go_enter func59,ntmps59;go_wp2_with fail
 refine X.o.mono ?_;rintro l w1 ⟨w,L⟩;have B:=aa (bj U.o w);have r:=aa (z.o.trans (w.mono z.o.size));clear w;obtain⟨I5,I6⟩:=bl B.o;rcases L with⟨m,M,C,rfl⟩|⟨o,q,s,rfl⟩
 ·have p:=aa (MO C);clear C;rcases M with rfl|rfl
  ·go_wp2;go_ret2
   exact⟨r.o,.inl ⟨3,.inl rfl,p.o,rfl⟩⟩
  go_wp2;go_ret2
  exact⟨r.o,.inl ⟨4,.inr rfl,p.o,rfl⟩⟩
 have p:=aa (And.intro q (And.intro s (rv q s)));have sX:=aa (Y.o o q s);have hlen:=sM.o o q s;clear q s Y sM;have air:(k>((dB o).length:Int))\/¬(k>((dB o).length:Int)):=Classical.em _;rcases air with ly|hle
 all_goals go_wp2_with fail
 all_goals(go_region_held3 (fun W=>W.cell? (V b 0)=some (A t)/\W.cell? (V b 1)=some (A v)) (first |exact bl B.o|exact bl ek.o|exact bl cB.o)
  (first
   |(go_at_call 48;refine(gL.o _ r.o.drew).mono ?_;rintro l w2 ⟨rfl,N⟩;have cB:=aa (bj B.o (Hq.o (mx N)));have P:=aa (r.o.drew.trans (N.mono r.o.size));clear N)
   |(go_at_call 57;refine(sX.o w2 P.o).mono ?_;rintro l w3 ⟨u,rfl,hu,Q⟩;obtain⟨kE,kF,rfl,_,_,_⟩:=bm hu;have ek:=aa (bj cB.o Q);have bB:=aa (P.o.trans (Q.mono P.o.size));clear Q hu)))
 ·go_wp2;go_ret2
  exact⟨bB.o,.inr ⟨o,p.o.1,p.o.2.1,p.o.2.2,.inl ⟨RP.2 (.inr ly),rfl⟩⟩⟩
 have Uu:decide (((dB o).length:Int)<k)=false:=decide_eq_false (by omega);go_wp2;go_ret2
 refine⟨bB.o,.inr ⟨o,p.o.1,p.o.2.1,p.o.2.2,.inr ?_⟩⟩;cases F:jN (dB o) k with
 |some n=>exact⟨n,rfl,rfl⟩
 |none=>exfalso;have :=RP.1 F;omega
theorem Zf{x}(h:dL b a e i c j d f x)(g:Nat)(D:g<c)(p q l:Int):
  O 64 #[Z a,A g,.agg #[A p,A q],A l] b fun n w'=>J b w'/\aiq (cq (f.ops g)) (p,q) l (x.eo g) n:=by
 have U:=h.m.eK g D;have Cc:=h.ko D;have X:=aa (((apY b.heap.size b).alloc (apX _) (.cells #[A p,A q] 36)).alloc (by simp) (.cells #[A 0,A 0,.string ⟨#[]⟩,A 0,A 0] 97));have c2:=aa (show((b.alloc (.cells #[A p,A q] 36)).alloc (.cells #[A 0,A 0,.string ⟨#[]⟩,A 0,A 0] 97)).heap[b.heap.size]?=some (.cells #[A p,A q] 36 (0,0)) from(hK _ _ (by simp)).trans (bI b _));have l7:=aa (show((b.alloc (.cells #[A p,A q] 36)).alloc (.cells #[A 0,A 0,.string ⟨#[]⟩,A 0,A 0] 97)).heap[b.heap.size+1]?=some (.cells #[A 0,A 0,.string ⟨#[]⟩,A 0,A 0] 97 (0,0)) from(by
  have :=bI (b.alloc (.cells #[A p,A q] 36)) (.cells #[A 0,A 0,.string ⟨#[]⟩,A 0,A 0] 97);rw[show(b.alloc (.cells #[A p,A q] 36)).heap.size=b.heap.size+1 by simp]at this;exact this))
 have vY:=aa (MN (h.ae X.o) g D p q true);have gL:=aa (fun W (ab:J b W)=>yw (U.ae ab));have nu:=aa (fun o (s:bt (cq (f.ops g)) (p,q)=some o) (I:o.list=true)=>U.elements Cc s I (ap0 (h.hr D s I) (by omega)));have sM:=aa (show ∀o,bt (cq (f.ops g)) (p,q)=some o->o.list=true->(dB o).length<=300 from fun o s I=>by
  have h1:=h.hr D s I;have al:(dB o).length<=o.ss.length:=by unfold dB;rw[ap2];exact aqR _ _
  omega)
 clear h U Cc;generalize cq (f.ops g)=R at *;go_enter func64,ntmps64;go_wp2_with fail
 refine vY.o.mono ?_;rintro n w1 ⟨L,Ew⟩;have Y:=aa (bj c2.o L);have M:=aa (bj l7.o L);have E:=aa (X.o.trans (L.mono X.o.size));clear L;obtain⟨I5,I6⟩:=bl Y.o;rcases Ew with⟨m,hm,ah,rfl⟩|⟨o,s,F,rfl⟩
 ·have r:=aa (MO ah);clear ah;obtain⟨t,w,y,z,B⟩:=gb M.o;have nQ:=cG M.o;have I7:=aN M.o;rcases hm with rfl|rfl
  ·go_wp2;refine bodyPost_ret (v:=.tuple #[.pointer none,.agg #[A 0,A 0,.string ⟨#[]⟩,A 0,A 0],A 3]) (by simp[results,results64,go_sem,t,w,y,z,B]) rfl ?_;exact⟨xh E.o (by omega) _ _ _ _ _,.inl ⟨3,.inl rfl,r.o,rfl⟩⟩
  go_wp2;refine bodyPost_ret (v:=.tuple #[.pointer none,.agg #[A 0,A 0,.string ⟨#[]⟩,A 0,A 0],A 4]) (by simp[results,results64,go_sem,t,w,y,z,B]) rfl ?_;exact⟨xh E.o (by omega) _ _ _ _ _,.inl ⟨4,.inr rfl,r.o,rfl⟩⟩
 have r:=aa (And.intro s (And.intro F (rv s F)));have sX:=aa (nu.o o s F);have hlen:=sM.o o s F;clear s F nu sM;go_wp2_with fail
 go_region_held3 (fun W=>W.cell? (V b 0)=some (A p)/\W.cell? (V b 1)=some (A q)) (first |exact bl Y.o|exact bl ek.o|exact bl cB.o)
  (first
   |(go_at_call 48;refine(gL.o _ E.o.drew).mono ?_;rintro n w2 ⟨rfl,N⟩;have cB:=aa (bj Y.o (Hq.o (mx N)));have jD:=aa (bj M.o (Hq.o (mx N)));have bd:=aa (E.o.drew.trans (N.mono E.o.size));clear N)
   |(go_at_call 57;refine(sX.o w2 bd.o).mono ?_;rintro n w3 ⟨u,rfl,hu,P⟩;obtain⟨kE,kF,rfl,va,sZ,iw⟩:=bm hu;have pT:=aa iw;have gr:=aa hu;have ek:=aa (bj cB.o P);have Q:=aa (bj jD.o P);have S:=aa (bd.o.trans (P.mono bd.o.size));clear P hu iw))
 unfold maxLen at sZ;obtain⟨t,w,y,z,B⟩:=gb Q.o;have nQ:=cG Q.o;have I7:=aN Q.o;obtain⟨z0,z1⟩:=bl ek.o;clear I5 I6;by_cases pI:l<0
 ·go_wp2;refine bodyPost_ret (v:=.tuple #[.pointer none,.agg #[A 0,A 0,.string ⟨#[]⟩,A 0,A 0],A 7]) (by simp[results,results64,go_sem,t,w,y,z,B]) rfl ?_;exact⟨xh S.o (by omega) _ _ _ _ _,.inr ⟨o,r.o.1,r.o.2.1,r.o.2.2,.inl ⟨.inl pI,rfl⟩⟩⟩
 by_cases jf:((dB o).length:Int)<=l
 ·go_wp2;refine bodyPost_ret (v:=.tuple #[.pointer none,.agg #[A 0,A 0,.string ⟨#[]⟩,A 0,A 0],A 7]) (by simp[results,results64,go_sem,t,w,y,z,B]) rfl ?_;exact⟨xh S.o (by omega) _ _ _ _ _,.inr ⟨o,r.o.1,r.o.2.1,r.o.2.2,.inl ⟨.inr jf,rfl⟩⟩⟩
 obtain⟨k,rfl⟩:∃k:Nat,l=(k:Int):=⟨l.toNat,by omega⟩;have au:k<(dB o).length:=by omega
 obtain⟨ug,rfl⟩:=pT.o k au;obtain⟨u0,u1⟩:=eE.cells gr.o.ids rfl k au;have sl:(k:Int)<((dB o).length:Int):=by omega
 have HGL:=aa (ap1 gr.o ug rfl);clear pT;go_wp2_with fail
 go_region_with
  (first |(go_at_call 63;refine(MM p q _ _ _).mono ?_;rintro n w4 ⟨rfl,gp⟩;have wO:=Hq.o (mx gp);have C:=aa (bj Q.o wO);have fx:=aa (S.o.trans (wO.mono S.o.size));clear gp wO;replace t:=(gb C.o).1;replace w:=(gb C.o).2.1;replace y:=(gb C.o).2.2.1;replace z:=(gb C.o).2.2.2.1;replace B:=(gb C.o).2.2.2.2;replace nQ:=cG C.o;replace I7:=aN C.o))
 all_goals go_wp2
 all_goals refine bodyPost_ret (v:=.tuple #[Z (x.eo g),.agg #[A p,A q,.string ⟨#[]⟩,A (dB o)[k].1,A (dB o)[k].2],A 0]) (by simp[results,results64,go_sem,t,w,y,z,B]) rfl ?_
 all_goals exact⟨xh fx.o (by omega) _ _ _ _ _,.inr ⟨o,r.o.1,r.o.2.1,r.o.2.2,.inr ⟨by omega,(dB o)[k],by simp[au],rfl⟩⟩⟩
def fg (s:bn) (c:Nat) (chg:lg) (t:TypeId) (v:Value):bn:=l5 s c (s.gt c+1) (upd (s.has c) c (s.has c c+1)) (s.ops c++[kk c (s.gt c) (s.has c) chg t v]) (s.kept c++[kk c (s.gt c) (s.has c) chg t v]) (s.early c)
def qM (r N e:Nat) (F I:Nat->Prop) (w a:World) (f:Nat->Nat) (M:Nat->List ar) (s:bn):Prop:=∃b c d,dL a r b c N e M s d/\d.eo=f/\c6 F b w a/\B3 I c w a
def I8 (r N b:Nat) (F I:Nat->Prop) (w d:World) (e:Nat->Nat) (M:Nat->List ar) (s:bn) (c:Nat) (a:lg):Prop:=s.has c c<60/\∃t v,qM r N b F I w d e (qK M c (kk c (s.gt c) (s.has c) a t v)) (fg s c a t v)
def ais (r N g:Nat) (F I:Nat->Prop) (M:Nat->List ar) (s:bn) (x:cI) (c:Nat) (a b n:Int) (d:ByteArray) (w:World) (e:Ending) (h:World):Prop:=
   (∃m,(lS (cq (s.ops c)) (a,b) d=.error m\/(m=8/\(∃o,bt (cq (s.ops c)) (a,b)=some o/\o.list=false/\kr d=true)/\¬s.has c c<60))/\e=.returned (A m)/\qM r N g F I w h x.eo M s)\/
   (∃o f,bt (cq (s.ops c)) (a,b)=some o/\o.list=false/\kr d=true/\f.Perm ((eZ (x.q c).D.1 (x.q c).D.2 (a,b) d (0,0)).aC.map (·.1))/\mX f/\e=.returned (A 0)/\I8 r N g F I w h x.eo M s c (.inr (.inr (.inl ((a,b),d,(0,0),(n,(0,0)),f)))))
def ait (r N f:Nat) (F I:Nat->Prop) (M:Nat->List ar) (s:bn) (x:cI) (c:Nat) (a b i n:Int) (w:World) (e:Ending) (g:World):Prop:=
   (∃m,(iF (cq (s.ops c)) (a,b)=.error m\/(m=7/\∃o,bt (cq (s.ops c)) (a,b)=some o/\o.list=true/\(i<0\/((dB o).length:Int)<=i))\/((m=8/\¬s.has c c<60)/\∃o,bt (cq (s.ops c)) (a,b)=some o/\o.list=true/\¬(i<0\/((dB o).length:Int)<=i)))/\e=.returned (A m)/\qM r N f F I w g x.eo M s)\/
   (∃o y d,bt (cq (s.ops c)) (a,b)=some o/\o.list=true/\¬(i<0\/((dB o).length:Int)<=i)/\(dB o)[i.toNat]?=some y/\d.Perm ((eZ (x.q c).D.1 (x.q c).D.2 (a,b) ⟨#[]⟩ y).aC.map (·.1))/\mX d/\e=.returned (A 0)/\I8 r N f F I w g x.eo M s c (.inr (.inr (.inl ((a,b),⟨#[]⟩,y,(n,(0,0)),d)))))
def aiu (r N f:Nat) (F I:Nat->Prop) (M:Nat->List ar) (s:bn) (x:cI) (c:Nat) (a b i:Int) (w:World) (e:Ending) (g:World):Prop:=
   (∃m,(iF (cq (s.ops c)) (a,b)=.error m\/(m=7/\∃o,bt (cq (s.ops c)) (a,b)=some o/\o.list=true/\(i<0\/((dB o).length:Int)<=i))\/(m=8/\(∃o,bt (cq (s.ops c)) (a,b)=some o/\o.list=true/\¬(i<0\/((dB o).length:Int)<=i))/\¬s.has c c<60))/\e=.returned (A m)/\qM r N f F I w g x.eo M s)\/
   (∃o y d,bt (cq (s.ops c)) (a,b)=some o/\o.list=true/\¬(i<0\/((dB o).length:Int)<=i)/\(dB o)[i.toNat]?=some y/\d.Perm ((eZ (x.q c).D.1 (x.q c).D.2 (a,b) ⟨#[]⟩ y).aC.map (·.1))/\mX d/\e=.returned (A 0)/\I8 r N f F I w g x.eo M s c (.inr (.inr (.inr ((a,b),⟨#[]⟩,y,d)))))
theorem dL.left{w}(g:dL w a e i c j d f h)(n:J w b):qM a c j e i w b h.eo d f:=⟨e,i,h,g.ae n,rfl,c6.cJ n,fun k l=>⟨l,n.block k (g.m.cx k l)⟩,fun _ l=>.inl l⟩
theorem dL.MR{u p}(g:dL b l i e c j d f h)(o:J b r)(s:a<c)(z:f.has a a<60)(B:I1 (d a) p)(C:yI (h.h8 a) e c j a (h.eo a) (f.gt a) (f.has a) (f.kept a) (f.early a) (h.q a) r u p):I8 l c j i e b u h.eo d f a p:=by
 obtain⟨t,v,P,D,Q,E,F,I,w,x⟩:=C;obtain⟨L,M,y,N,_⟩:=(g.m.ae o).RB s E I w x F (ops':=f.ops a++[kk a (f.gt a) (f.has a) p t v]) (by rw[g.m.l3 a s,aqs]);have R:=g.ok.own a s;refine⟨z,t,v,_,D,L,⟨M,g.ok.wrote s (by omega) p t v,g.md.wrote B⟩,N,y.before o,fun k n=>⟨w k n,?_⟩,fun k n=>(x k n).imp id fun g=>ap0 o.size g⟩;exact(y.other k (ap3 (g.m.cx k n) o.size) (g.m.eC k n)).trans (o.block k (g.m.cx k n))
theorem aiv(g:dL b c e i j l d f h)(u:a<j)(p q n:Int)(r:ByteArray)(E:r.size<=maxLen):
  O 23 #[Z c,A a,.agg #[A p,A q],.string r,A n] b fun k F=>ais c j l e i d f h a p q n r b k F:=by
 have z:=(apY b.heap.size b).alloc (apX _) (.cells #[A p,A q] 36);have S:=aa (bI b (.cells #[A p,A q] 36));go_enter func23,ntmps23;go_wp2_with fail
 refine(MP (g.ae z) a u p q r E).mono ?_;rintro k U ⟨I,L⟩;have v:=z.trans (I.mono z.size);rcases L with⟨m,M,s,rfl⟩|⟨o,N,P,Q,X,rfl⟩
 ·rcases M with rfl|rfl|rfl
  all_goals go_wp2
  all_goals go_ret
  all_goals exact(show _\/_ from .inl ⟨_,.inl s,rfl,g.left (v.alloc v.size _)⟩)
 have w:=And.intro N (And.intro P Q);have x:=v.alloc v.size (.cells #[A p,A q,.string r,A 0,A 0] 97);go_wp2_with fail
 refine((fun W (B:J b W)=>YY ((g.ae B).m.eK a u) (g.uN u) (p,q) (0,0) r n) _ x).mono ?_;rintro k Y (⟨t,rfl,R,s,C,D⟩|⟨t,rfl,B⟩)
 ·have y:=aa (And.intro t (And.intro s (And.intro C D)));go_wp2;go_ret
  obtain⟨t,s,C,D⟩:=y.o;exact(show _\/_ from .inr ⟨o,R,w.1,w.2.1,w.2.2,s,C,rfl,g.MR x u t ⟨fun _=>rfl,.inl rfl⟩ D⟩)
 have y:=aa (And.intro t (x.trans (B.mono x.size)));go_wp2;go_ret
 exact(show _\/_ from .inl ⟨8,.inr ⟨rfl,⟨o,w⟩,Int.not_lt.2 y.o.1⟩,rfl,g.left y.o.2⟩)
theorem aiw(g:dL b c e i j l d f h)(w:a<j)(r s k n:Int):
  O 33 #[Z c,A a,.agg #[A r,A s],A k,A n] b fun p N=>ait c j l e i d f h a r s k n b p N:=by
 have B:=(apY b.heap.size b).alloc (apX _) (.cells #[A r,A s] 36);go_enter func33,ntmps33;go_wp2_with fail
 refine(Zf (g.ae B) a w r s k).mono ?_;rintro p Y ⟨P,Q⟩;have t:=B.trans (P.mono B.size);rcases Q with⟨m,R,u,rfl⟩|⟨o,L,M,ej,⟨C,rfl⟩|⟨C,y,S,rfl⟩⟩
 ·have D:=aa u;rcases R with rfl|rfl
  all_goals go_wp2
  all_goals go_ret
  all_goals exact(show _\/_ from .inl ⟨_,.inl D.o,rfl,g.left (t.alloc t.size _)⟩)
 ·have D:=aa (And.intro L (And.intro M C));go_wp2;go_ret
  exact(show _\/_ from .inl ⟨_,.inr (.inl ⟨rfl,o,D.o⟩),rfl,g.left (t.alloc t.size _)⟩)
 have q:=And.intro L (And.intro M (And.intro C S));have x:=t.alloc t.size (.cells #[A r,A s,.string ⟨#[]⟩,A y.1,A y.2] 97);go_wp2_with fail
 refine((fun W (E:J b W) (y:PId)=>YY ((g.ae E).m.eK a w) (g.uN w) (r,s) y ⟨#[]⟩ n) _ x y).mono ?_;rintro p w2 (⟨v,rfl,U,u,F,I⟩|⟨v,rfl,E⟩)
 ·have z:=aa (And.intro v (And.intro u (And.intro F I)));go_wp2;go_ret
  obtain⟨v,u,F,I⟩:=z.o;exact(show _\/_ from .inr ⟨o,y,U,q.1,q.2.1,q.2.2.1,q.2.2.2,u,F,rfl,g.MR x w v ⟨fun X=>absurd rfl X,.inl rfl⟩ I⟩)
 have z:=aa (And.intro v (x.trans (E.mono x.size)));go_wp2;go_ret
 exact(show _\/_ from .inl ⟨8,.inr (.inr ⟨⟨rfl,Int.not_lt.2 z.o.1⟩,o,q.1,q.2.1,q.2.2.1⟩),rfl,g.left z.o.2⟩)
theorem aix(g:dL b c e i j l d f h)(v:a<j)(q r k:Int):
  O 34 #[Z c,A a,.agg #[A q,A r],A k] b fun n M=>aiu c j l e i d f h a q r k b n M:=by
 have z:=(apY b.heap.size b).alloc (apX _) (.cells #[A q,A r] 36);go_enter func34,ntmps34;go_wp2_with fail
 refine(Zf (g.ae z) a v q r k).mono ?_;rintro n X ⟨N,P⟩;have s:=z.trans (N.mono z.size);rcases P with⟨m,Q,t,rfl⟩|⟨o,I,L,Y,⟨B,rfl⟩|⟨B,y,R,rfl⟩⟩
 ·have C:=aa t;rcases Q with rfl|rfl
  all_goals go_wp2
  all_goals go_ret
  all_goals exact(show _\/_ from .inl ⟨_,.inl C.o,rfl,g.left (s.alloc s.size _)⟩)
 ·have C:=aa (And.intro I (And.intro L B));go_wp2;go_ret
  exact(show _\/_ from .inl ⟨_,.inr (.inl ⟨rfl,o,C.o⟩),rfl,g.left (s.alloc s.size _)⟩)
 have p:=And.intro I (And.intro L (And.intro B R));have w:=s.alloc s.size (.cells #[A q,A r,.string ⟨#[]⟩,A y.1,A y.2] 97);go_wp2_with fail
 refine((fun W (D:J b W) (y:PId)=>YZ ((g.ae D).m.eK a v) (g.uN v) (q,r) y ⟨#[]⟩) _ w y).mono ?_;rintro n w2 (⟨u,rfl,S,t,E,F⟩|⟨u,rfl,D⟩)
 ·have x:=aa (And.intro u (And.intro t (And.intro E F)));go_wp2;go_ret
  obtain⟨u,t,E,F⟩:=x.o;exact(show _\/_ from .inr ⟨o,y,S,p.1,p.2.1,p.2.2.1,p.2.2.2,t,E,rfl,g.MR w v u (fun U=>absurd rfl U) F⟩)
 have x:=aa (And.intro u (w.trans (D.mono w.size)));go_wp2;go_ret
 exact(show _\/_ from .inl ⟨8,.inr (.inr ⟨rfl,⟨o,p.1,p.2.1,p.2.2.1⟩,Int.not_lt.2 x.o.1⟩),rfl,g.left x.o.2⟩)
def aiy (r N g:Nat) (F I:Nat->Prop) (M:Nat->List ar) (s:bn) (x:cI) (c:Nat) (a b:Int) (d:ByteArray) (w:World) (e:Ending) (h:World):Prop:=
 (∃m,(lS (cq (s.ops c)) (a,b) d=.error m\/(m=6/\(∃o,bt (cq (s.ops c)) (a,b)=some o/\o.list=false/\kr d=true)/\(eZ (x.q c).D.1 (x.q c).D.2 (a,b) d (0,0)).aC=[])\/(m=8/\((∃o,bt (cq (s.ops c)) (a,b)=some o/\o.list=false/\kr d=true)/\(eZ (x.q c).D.1 (x.q c).D.2 (a,b) d (0,0)).aC≠[])/\¬s.has c c<60))/\e=.returned (A m)/\qM r N g F I w h x.eo M s)\/
 (∃o f,bt (cq (s.ops c)) (a,b)=some o/\o.list=false/\kr d=true/\f.Perm ((eZ (x.q c).D.1 (x.q c).D.2 (a,b) d (0,0)).aC.map (·.1))/\mX f/\e=.returned (A 0)/\(eZ (x.q c).D.1 (x.q c).D.2 (a,b) d (0,0)).aC≠[]/\I8 r N g F I w h x.eo M s c (.inr (.inr (.inr ((a,b),d,(0,0),f)))))
def aiz (r N f:Nat) (F I:Nat->Prop) (M:Nat->List ar) (s:bn) (x:cI) (c:Nat) (a b:Int) (w:World) (e:Ending) (d:World):Prop:=
 J w d/\((∃n,iF (cq (s.ops c)) (a,b)=.error n/\e=.returned (.tuple #[.slice none 0 0,A n]))\/(∃v l,iF (cq (s.ops c)) (a,b)=.ok l/\l.length<=300/\e=.returned (.tuple #[v,A 0])/\gA w.heap.size d v l))
theorem aiA{x}(h:dL b c e i j l d f x)(r:a<j)(k n:Int)(p:ByteArray)(dW:p.size<=maxLen):
  O 78 #[Z c,A a,.agg #[A k,A n],.string p] b fun g w'=>aiy c j l e i d f x a k n p b g w':=by
 have I:=(apY b.heap.size b).alloc (apX _) (.cells #[A k,A n] 36);have L:=(h.uN r).fX (k,n) p (0,0);go_enter func78,ntmps78;go_wp2_with fail
 refine(MP (h.ae I) a r k n p dW).mono ?_;rintro g v ⟨aq,dX⟩;have C:=I.trans (aq.mono I.size);rcases dX with⟨m,hm,s,rfl⟩|⟨o,af,bz,mL,fr,rfl⟩
 ·rcases hm with rfl|rfl|rfl
  all_goals go_wp2
  all_goals go_ret
  all_goals exact(show _\/_ from .inl ⟨_,.inl s,rfl,h.left (C.alloc C.size _)⟩)
 have w:=And.intro af (And.intro bz mL);have M:=C.alloc C.size (.cells #[A k,A n,.string p,A 0,A 0] 97);have S:=bI v (.cells #[A k,A n,.string p,A 0,A 0] 97);go_wp2_with fail
 go_region_held3 (fun W=>W.cell? (V v 0)=some (A k)/\W.cell? (V v 1)=some (A n)/\W.cell? (V v 2)=some (.string p)/\W.cell? (V v 3)=some (A 0)/\W.cell? (V v 4)=some (A 0)) (first |exact gb S|exact gb U.o|exact gb X.o)
  (first
   |(go_at_call 48;refine((fun W (t:J b W)=>yw ((h.ae t).m.eK a r)) _ M.drew).mono ?_;rintro g w2 ⟨rfl,Y⟩;have X:=aa (bj S (Hq.o (mx Y)));have N:=M.drew.trans (Y.mono M.size))
   |(go_at_call 49;refine((fun W (t:J b W)=>QL ((h.ae t).m.eK a r).jT.q k n 0 0 p L.1 L.2) w2 N).mono ?_;rintro g w3 ⟨u,hO,rfl,s,E,hu,bb⟩;obtain⟨kE,kF,rfl,_,_,_⟩:=bm hu;rw[ap2,s.length_eq];have U:=aa (bj X.o bb);have y:=N.trans (bb.mono N.size)))
 obtain⟨z0,z1,z2,z3,z4⟩:=gb U.o;obtain⟨ea,z⟩:∃ea,ea=(eZ (x.q a).D.1 (x.q a).D.2 (k,n) p (0,0)).aC.length:=⟨_,rfl⟩;rw[<-z];by_cases P:ea=0
 ·subst P;go_wp2;go_ret
  exact(show _\/_ from .inl ⟨6,.inr (.inl ⟨rfl,⟨o,w⟩,arb z.symm⟩),rfl,h.left y⟩)
 have wS:ea<=10000:=by rw[z];exact L.1
 have h0':¬(ea:Int)=0:=by omega
 go_wp2_with fail
 refine((fun W (t:J b W)=>YZ ((h.ae t).m.eK a r) (h.uN r) (k,n) (0,0) p) w3 y).mono ?_;rintro g w4 (⟨B,rfl,ss,s,E,Q⟩|⟨B,rfl,t⟩)
 ·have F:=aa (And.intro B (And.intro s (And.intro E Q)));go_wp2;go_ret
  obtain⟨B,s,E,Q⟩:=F.o;exact(show _\/_ from .inr ⟨o,ss,w.1,w.2.1,w.2.2,s,E,rfl,fun R=>P (by rw[z,R];rfl),h.MR y r B (fun _=>rfl) Q⟩)
 have F:=aa (And.intro B (y.trans (t.mono y.size)));go_wp2;go_ret
 exact(show _\/_ from .inl ⟨8,.inr (.inr ⟨rfl,⟨⟨o,w⟩,fun R=>P (by rw[z,R];rfl)⟩,Int.not_lt.2 F.o.1⟩),rfl,h.left F.o.2⟩)
theorem aiB{x}(h:dL b c e i j l d f x)(q:a<j)(k n:Int):
  O 29 #[Z c,A a,.agg #[A k,A n]] b fun g I=>aiz c j l e i d f x a k n b g I:=by
 have v:=(apY b.heap.size b).alloc (apX _) (.cells #[A k,A n] 36);have L:=bI b (.cells #[A k,A n] 36);have M:=MN (h.ae v) a q k n true;have N:=fun W (P:J b W)=>yw ((h.ae P).m.eK a q)
 have Q:=aa (fun o (p:bt (cq (f.ops a)) (k,n)=some o) (r:o.list=true)=>(h.m.eK a q).elements (h.ko q) p r (ap0 (h.hr q p r) (by omega)));have R:=aa (fun o (p:bt (cq (f.ops a)) (k,n)=some o) (r:o.list=true)=>h.hr q p r);have az:=aa h;go_enter func29,ntmps29;go_wp2_with fail
 refine M.mono ?_;rintro g w1 ⟨z,S⟩;have B:=bj L z;have s:=v.trans (z.mono v.size);rcases S with⟨m,U,X,rfl⟩|⟨o,p,w,rfl⟩
 ·have y:=aa (MO X);rcases U with rfl|rfl
  all_goals go_wp2
  all_goals go_ret2
  all_goals exact(show _/\_ from⟨s,.inl ⟨_,y.o,rfl⟩⟩)
 have y:=aa (rv p w);have Y:=Q.o o p w;have bR:=show(dB o).length<=300 by
  have h1:=R.o o p w;have al:(dB o).length<=o.ss.length:=by unfold dB;rw[ap2];exact aqR _ _
  omega
 go_wp2_with fail
 go_region_held3 (fun W=>W.cell? (V b 0)=some (A k)/\W.cell? (V b 1)=some (A n)) (first |exact bl B|exact bl ek.o|exact bl C.o)
  (first
   |(go_at_call 48;refine(N _ s.drew).mono ?_;rintro g w2 ⟨rfl,D⟩;have C:=aa (bj B (Hq.o (mx D)));have t:=s.drew.trans (D.mono s.size))
   |(go_at_call 57;refine(Y w2 t).mono ?_;rintro g w3 ⟨u,rfl,hu,E⟩;have ek:=aa (bj C.o E);have bB:=aa (t.trans (E.mono t.size));have F:=aa (show gA b.heap.size w3 u (dB o) from gT hu t.size);obtain⟨kE,kF,rfl,_,_,_⟩:=bm F.o))
 all_goals go_wp2
 all_goals go_ret2
 all_goals exact(show _/\_ from⟨bB.o,.inr ⟨_,_,y.o,bR,rfl,F.o⟩⟩)
end
end Go.Proofs.YtnkpogjiiohapaaGreatDoor
