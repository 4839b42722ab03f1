/- Our own text. -/
import Derived.Test.YtnkpogjiiohapaaGreatDoorA17
import Derived.Test.YtnkpogjiiohapaaGreatDoorA16
import Derived.Test.YtnkpogjiiohapaaGreatDoorA08
import Derived.Test.YtnkpogjiiohapaaGreatDoorA13
import Derived.Test.YtnkpogjiiohapaaGreatDoorA11
set_option linter.unusedSimpArgs false
set_option linter.unusedVariables false
set_option maxRecDepth 1000000
set_option maxHeartbeats 4000000
namespace Go.Proofs.YtnkpogjiiohapaaGreatDoor
section
open Go.RowKit Tryz
attribute [local go_sem ↓] Go.wp_at_zero Go.wp_at_succ
variable {a:List av}{b f h k:Nat}{d j:Nat->Prop}{e:World}{i:Nat->Int}{l:fU}
theorem kU.zr{j l m i n p F D0 D}{I':Nat->Prop}(c:kU e b f h j l a k m i n p F d D0 D)(r:∀g,d g->I' g)(s:∀g,I' g->g<e.heap.size)(t:∀g,I' g->¬F g):kU e b f h j l a k m i n p F I' D0 D:=
 ⟨c.blk,c.row,fun o u=>(c.chg o u).gU (fun _ _=>rfl) r,c.mem,c.rT,c.rU,c.rV,c.le,c.len,c.vb,c.mo,c.q,c.own,c.ji,c.did,c.maps,c.pG,c.ps,c.qX,c.cd,c.fd,c.oX,c.oY,c.lt,t,s⟩
theorem dx.zr{w a F I N b c gt d e early q}{I':Nat->Prop}(h:dx w a F I N b c gt d e early q)(f:∀k,I k->I' k)(i:∀k,I' k->k<w.heap.size)(g:∀k,I' k->¬F k):dx w a F I' N b c gt d e early q:=
 ⟨h.blk,h.heard,h.jM.zr f i fun k j hF=>g k j (h.qN k hF),h.cnt,h.kd,h.emap,fun p l=>(h.Bc p l).gU (fun _ _=>rfl) f,h.Df,h.zq,h.hc,h.hN,h.cd,h.fr,h.oZ,h.vg,h.qN,h.pL,h.Bd,h.Be,h.Dg,h.Dh,h.lt,g⟩
theorem dx.set{sp gt early q}(c:dx e b d j f sp h gt i a early q){g o:Nat}(u:Value)(p:¬d g)(r:¬j g):dx (e.setCell (K g o) u) b d j f sp h gt i a early q:=by
 have n:aP (fun k=>k=g) e (e.setCell (K g o) u):=aP.lf _ rfl;exact c.gB n.size (fun k m=>n.other k (c.lt k m) fun l=>p (l▸m)) (fun k m=>n.other k (c.cJ k m) fun l=>r (l▸m))
theorem x5{I sp gt early}(c:dx e b j I f sp h gt i a early l):
  O 48 #[Z b] e fun g m=>g=.returned (Z l.d)/\J e m:=by
 obtain⟨n,p,q,u,dC,r⟩:=c.cells;have s:=aa (aew (sp:=sp) (su:=l.su) (by have :=c.jM.blk;unfold nr at this;exact this));clear n p q dC r c;go_enter func48,ntmps48;go_wp2_with fail
 refine s.o.mono ?_;rintro g v ⟨rfl,k⟩;have t:=aa k;clear k;go_wp2;go_ret
 exact⟨rfl,t.o⟩
theorem HN{m gt early}(h:dx e f d j k m b gt i a early l)(c:Nat)(r:c<=10):
  O 60 #[Z f,A c] e fun g w'=>g=.returned (.bool (decide (i b+c<=60)))/\J e w':=by
 obtain⟨s,n,t,o,dC,p⟩:=h.cells;have u:=h.Fm h.hc;have v:(0:Int)<=(b:Int):=ao0 _;have w:(b:Int)<(k:Int):=by have :=h.hc;omega
 have x:=h.hc;have y:=h.hN;have q:decide (i b<=60-(c:Int))=decide (i b+c<=60):=by congr 1;apply propext;omega
 clear n o dC p h;go_enter func60,ntmps60;go_wp2_with fail
 go_region_held3 (fun W=>W.cell? (H f)=some (A b)/\W.cell? (K f 2)=some (.slice (some (H l.ey)) k k)/\W.cell? (K l.ey b)=some (A (i b))) (go_keep) (fail)
 all_goals go_wp2
 all_goals go_ret
 all_goals
  rw[<-q,apO (60-(c:Int)) (by omega)];exact⟨rfl,(aoQ _ e).drew⟩
def ke (c:Nat) (gt:Int) (a:Nat->Int) (chg:kS) (t:TypeId) (v:Value):av:=⟨⟨(gt+1,(c:Int)),a c+1,chg⟩,t,v⟩
theorem W2{x:av}:∀{l:List av},(∀o∈l,eK o.op.id x.op.id=true)->lH x l=l++[x]
 |[],_=>rfl
 |o::l,h=>by
  unfold lH;rw[if_pos (h o ao6),W2 fun y a=>h y (apa _ a)];rfl
theorem Ls{X gt early}(h:dx e f j d k X b gt i a early l)(lu:0<=gt/\gt<=100000)(hhc:0<=i b/\i b<=1000)(Y:∀o∈a,o.op.id.1<=gt)(hl:a.length<300)(t:TypeId)(v:Value)(s:kS)(w:pF e d (.iface t v) s):
  O 91 #[Z f,.iface t v] e fun g w'=>g=.returned (.agg #[A (gt+1),A b])/\∃u z,dx w' f u d k X b (gt+1) (upd i b (i b+1)) (a++[ke b gt i s t v]) early z/\Fl l z/\c0 j u e w':=by
 obtain⟨B,a6,N,bV,dC,im⟩:=h.cells;clear bV dC im;have C:=h.Fm h.hc;have p3:(0:Int)<=(b:Int):=ao0 _;have kx:(b:Int)<(k:Int):=by have :=h.hc;omega
 have h7:=h.hc;have od:=h.lt _ h.cd;have cP:=h.lt _ h.fr;have po:f≠l.ey:=h.rg;have Bf:=h.hN;obtain⟨p,D⟩:∃p,p=gt+1:=⟨_,rfl⟩;obtain⟨q,E⟩:∃q,q=i b+1:=⟨_,rfl⟩;have PY:IntKind.i64.wrap (gt+1)=p:=by rw[D];exact apO _ (by omega)
 have rP:IntKind.i64.wrap (i b+1)=q:=by rw[E];exact apO _ (by omega)
 have F:=aa (((aoQ e.heap.size e).alloc (aoP _) (.cells #[A 0,A 0] 36)).alloc (by simp) (.cells #[A p,A b] 36));have P:=aa (F.o.alloc (by simp;omega) (.cells #[A p,A b,A q,.iface t v] 210)).drew.drew;have PZ:=aa (show(((e.alloc (.cells #[A 0,A 0] 36)).alloc (.cells #[A p,A b] 36)).alloc (.cells #[A p,A b,A q,.iface t v] 210)).drew.drew.heap[e.heap.size+2]?=some (.cells #[A p,A b,A q,.iface t v] 210 (0,0)) by
   have :=bL ((e.alloc (.cells #[A 0,A 0] 36)).alloc (.cells #[A p,A b] 36)) (.cells #[A p,A b,A q,.iface t v] 210);rw[show((e.alloc (.cells #[A 0,A 0] 36)).alloc (.cells #[A p,A b] 36)).heap.size=e.heap.size+2 by simp]at this;exact this)
 have Q:∀o∈a,eK o.op.id (ke b gt i s t v).op.id=true:=fun o R=>(q3 _ _).2 (.inl (by have :=Y o R;simp only[ke];omega))
 have P0:=aa (WX (h.af P.o) [ke b gt i s t v] (by
   simp only[List.singleton_append,apb,apg];refine⟨fun hm=> ?_,?_⟩
   ·obtain⟨o,R,he⟩:=aoX.1 hm
    have :=Q o R;rw[he,uc]at this;cases this
   ·have :=h.kd
    unfold pH at this;refine apB.2 (this.imp fun{m n} c1 g=> ?_);rw[g,uc]at c1;cases c1) (by simp;omega) (fun x w=>by
   obtain rfl:=ao2.1 w;exact⟨p3,kx⟩) (.slice (some (H (e.heap.size+2))) 1 1) (by
   refine⟨rfl,.inr ⟨e.heap.size+2,1,_,rfl,aoR _,PZ.o,aoP _,by unfold maxLen;omega,rfl,?_⟩⟩;simp[dn,ke,<-D,<-E]) (fun c I hF=>by
   have :=h.lt c hF;simp[Value.ownBlock]at I;omega) (fun x C1=>by
   obtain rfl:=ao2.1 C1;exact w.gU (fun c I=>P.o.block c (h.cJ c I)) (fun _ y=>y)))
 have S:=aa (And.intro h.lt h.cJ);have HIE:=aa (show ja a [ke b gt i s t v]=a++[ke b gt i s t v] from W2 Q);have kp:=aa (And.intro D E);have x6:=aa (show nw gt [ke b gt i s t v]=gt+1 from(by show max gt (gt+1)=gt+1;omega));have P1:=aa (show hasAll i [ke b gt i s t v]=upd i b (i b+1) from rfl);clear h w Y Q D E lu hhc;have sx:=World.new_ne e (H f) B;have rD:=World.new_ne e (K l.ey b) C;have lN:e.heap.size+1≠f:=by omega
 have oL:e.heap.size+1≠l.ey:=by omega
 have gp:e.heap.size+2≠f:=by omega
 have Fp:e.heap.size+2≠l.ey:=by omega
 go_enter func91,ntmps91;go_wp2_with fail
 go_region_held3 (fun W=>W.cell? (H f)=some (A b)/\W.cell? (K f 1)=some (A gt)) (go_keep) (fail)
 go_wp2_with fail
 replace B:=af F.o B;replace N:=af F.o N;replace C:=af F.o C;clear sx rD lN oL gp Fp;have fI:=aa (show(((e.alloc (.cells #[A 0,A 0] 36)).alloc (.cells #[A p,A b] 36)).alloc (.cells #[A p,A b,A q,.iface t v] 210)).drew.drew.heap[e.heap.size]?=some (.cells #[A 0,A 0] 36 (0,0)) from(hV _ _ (by simp;omega)).trans ((hV _ _ (by simp)).trans (bL e _)));have fc:=aa (show(((e.alloc (.cells #[A 0,A 0] 36)).alloc (.cells #[A p,A b] 36)).alloc (.cells #[A p,A b,A q,.iface t v] 210)).drew.drew.heap[e.heap.size+1]?=some (.cells #[A p,A b] 36 (0,0)) from(hV _ _ (by simp)).trans (by
  have :=bL (e.alloc (.cells #[A 0,A 0] 36)) (.cells #[A p,A b] 36);rw[show(e.alloc (.cells #[A 0,A 0] 36)).heap.size=e.heap.size+1 by simp]at this;exact this))
 go_region_with (first |(go_at_call 142;refine P0.o.mono ?_;rintro g w4 ⟨⟨r,rfl⟩,u,z,HO,W3,ql⟩;have oV:=aa (And.intro HO W3);have L:=aa ql;clear HO W3 ql))
 all_goals(
  have U:∀c,e.heap.size<=c->¬j c:=fun c I hF=>by have :=S.o.1 c hF;omega
  have M:w4.heap[e.heap.size]?=some (.cells #[A 0,A 0] 36 (0,0)):=(L.o.other _ (by simp;omega) (U _ (aoP _))).trans fI.o;have aU:w4.heap[e.heap.size+1]?=some (.cells #[A p,A b] 36 (0,0)):=(L.o.other _ (by simp) (U _ (by omega))).trans fc.o;obtain⟨fz,eJ⟩:=bh M;obtain⟨HP,kf⟩:=bh aU;have kT:=cS M;have Ft:=aM M;clear M aU U B N C)
 all_goals go_wp2
 all_goals refine bodyPost_ret (v:=.agg #[A p,A b]) (by simp[results,results91,go_sem,fz,eJ]) rfl ?_
 all_goals(
  have wq:¬u e.heap.size:=fun hF=>by
   rcases L.o.sub _ hF with h|h
   ·have :=S.o.1 _ h;omega
   ·simp at h;omega
  have tf:¬d e.heap.size:=fun cT=>by have :=S.o.2 _ cT;omega
  have bB:=oV.o.1;rw[HIE.o,x6.o,P1.o]at bB;exact⟨by rw[kp.o.1],u,z,(bB.set _ wq tf).set _ wq tf,oV.o.2,((L.o.before P.o).va (aoP _) _).va (aoP _) _⟩)
end
section
open Go.RowKit Tryz
attribute [local go_sem] Oper.semAt_some
theorem agq(g:Nat)(v:Option Nat)(a:List (PId×dR))(w:World)(i:w.cell? (H g)=some (.map v))(j:iN w v a)(s:a.length<=10000)(t:(a.map (·.1)).Nodup):
  O 137 #[.func (.func 164) #[] #[Z g],.func (.func 139) #[] #[]] w fun e l=>∃u b,e=.returned u/\b.Perm (a.map (·.1))/\mR b/\gu w.heap.size l u b/\J w l:=by
 have x:=aa (adM g v a w i j s);clear i j;go_enter func137,ntmps137;go_wp2_with fail
 refine x.o.mono ?_;rintro e D ⟨u,b,rfl,c,h,m⟩;have y:b.length<=10000:=by have :=c.length_eq;rw[aoU]at this;omega
 have z:=aa (af9 h (c.nodup_iff.2 t) y);have d:=aa (And.intro c (And.intro h m));clear c h m;go_wp2_with fail
 refine z.o.mono ?_;rintro e E ⟨rfl,B,n,p,q,r⟩;have f:=aa (And.intro n (And.intro p (And.intro q r)));clear n p q r;go_wp2;go_ret
 exact⟨u,B,rfl,f.o.1.trans d.o.1,f.o.2.1,f.o.2.2.1,d.o.2.2.grown f.o.2.2.2 d.o.2.2.size (fun k C=>(aoT d.o.2.1 k C).1)⟩
theorem W4(v:Option Nat)(a:List (PId×dR))(w:World)(d:iN w v a)(n:a.length<=10000)(p:(a.map (·.1)).Nodup):
  O 87 #[.map v] w fun e f=>∃u b,e=.returned u/\b.Perm (a.map (·.1))/\mR b/\gu w.heap.size f u b/\J w f:=by
 have q:=aa (callsIn_wide.1 (adf Fence.wide 3 trivial rfl v w));have c:J w (w.alloc (.cells #[.map v] 159)):=(aoQ _ w).alloc (aoP _) _;have g:=aa c;have r:=aa (agq w.heap.size v a (w.alloc (.cells #[.map v] 159)) (by simp[go_sem]) (d.af c) n p);clear d c;go_enter func87,ntmps87;go_wp2_with fail
 refine q.o.mono ?_;rintro e s ⟨rfl,rfl⟩;go_wp2_with fail
 refine r.o.mono ?_;rintro e t ⟨u,b,rfl,h,i,j,k⟩;have l:=aa (And.intro j k);clear j k;have m:=aa (And.intro h i);clear h i;go_wp2;go_ret
 exact⟨u,b,rfl,m.o.1,m.o.2,gC l.o.1 (by simp),g.o.trans (l.o.2.mono g.o.size)⟩
theorem W5{w d C D j k}(h:cu w d C D j k)(b c f g:Int)(i:ByteArray)(p:(eY j k (b,c) i (f,g)).aB.length<=10000)(q:((eY j k (b,c) i (f,g)).aB.map (·.1)).Nodup):
  O 92 #[Z d,.agg #[A b,A c,.string i,A f,A g]] w fun e r=>∃u l,e=.returned u/\l.Perm ((eY j k (b,c) i (f,g)).aB.map (·.1))/\mR l/\gu w.heap.size r u l/\J w r:=by
 have n:=aa ((aoQ w.heap.size w).alloc (aoP _) (.cells #[A b,A c,.string i,A f,A g] 97));have E:=aa (KF (h.af n.o) b c f g i);have F:=aa (fun W (I:J w W)=>W4 _ _ W ((h.at (b,c) i (f,g)).af I) p q);clear h p q;generalize eY j k (b,c) i (f,g)=a at *;go_enter func92,ntmps92;go_wp2_with fail
 refine E.o.mono ?_;rintro e L ⟨rfl,s⟩;have m:=aa (n.o.trans (s.mono n.o.size));clear s;go_wp2_with fail
 refine(F.o _ m.o).mono ?_;rintro e M ⟨u,l,rfl,t,v,x,y⟩;have z:=aa (And.intro x y);clear x y;have B:=aa (And.intro t v);clear t v;go_wp2;go_ret
 exact⟨u,l,rfl,B.o.1,B.o.2,gC z.o.1 m.o.size,m.o.trans (z.o.2.mono m.o.size)⟩
theorem agr{a:List (PId×dR)}(f:(a.map (·.1)).Nodup):∀{b:List PId},b.Perm (a.map (·.1))->∃d:List (PId×dR),d.Perm a/\d.map (·.1)=b:=by
 intro b c;refine⟨b.map fun k=>(k,(bq k a).getD (0,(0,0))),?_,by rw[apI];exact List.map_id _⟩;have g:(a.map (·.1)).map (fun k=>(k,(bq k a).getD (0,(0,0))))=a:=by
  rw[apI]
  conv=>rhs;rw[<-List.map_id a]
  refine aqq fun p c=> ?_
  have h:bq p.1 a=some p.2:=E7 f c;simp[h]
 have e:=c.map fun k=>(k,(bq k a).getD (0,(0,0)))
 rw[g]at e;exact e
theorem P2{w d aA be p q}(h:cu w d aA be p q)(c f j l:Int)(m:ByteArray)(Q:(eY p q (c,f) m (j,l)).aB.length<=10000)(R:((eY p q (c,f) m (j,l)).aB.map (·.1)).Nodup):
  O 49 #[Z d,.agg #[A c,A f,.string m,A j,A l]] w fun e S=>∃u,∃b:List (PId×dR),e=.returned u/\b.Perm (eY p q (c,f) m (j,l)).aB/\mR (b.map (·.1))/\nL w.heap.size S u (b.map (·.2))/\J w S:=by
 have x:=aa ((aoQ w.heap.size w).alloc (aoP _) (.cells #[A c,A f,.string m,A j,A l] 97));have bR:=aa (KF (h.af x.o) c f j l m);have r:=aa (fun W (ab:J w W)=>(h.at (c,f) m (j,l)).af ab);clear h;generalize eY p q (c,f) m (j,l)=a at *;go_enter func49,ntmps49;go_wp2_with fail
 refine bR.o.mono ?_;rintro e w1 ⟨rfl,U⟩;have y:=aa (x.o.trans (U.mono x.o.size));clear U;have hl:=Ov (r.o _ y.o) (ty:=3);obtain⟨i0,pj,hz0,hz1,hz2⟩:=info_parts (P:=prog) (e:=57) (z:=.agg #[A 0,A 0,A 0]) (size:=3) (bytes:=24) (by kernel_rfl);have X:=y.o.size;have B:=aa R;clear R;go_wp2_with (first
  |(at_make;refine wpList_make_own _ rfl (.const (A 0)) (.tmp 13) 53 rfl w.heap.size 57 i0 (.agg #[A 0,A 0,A 0]) 3 underlying53 pj hz0 hz1 _ _ _ a.aB.length rfl rfl ?h1 ?h2 ?ak ?aL ?_;(case h1=>rfl);(case h2=>rw[hz2];omega);(case ak=>unfold maxLen;omega);(case aL=>exact X);intro Y fv e1;have mb:=aa fv;clear fv;have dD:=aa e1;clear e1)
  |fail)
 have C:=aa (show J w Y from y.o.grown dD.o X (fun k hk=>by cases hk));refine(W4 _ _ Y (r.o _ C.o) Q B.o).mono ?_;rintro e w3 ⟨u,ss,rfl,x7,has,D,E⟩;obtain⟨b,W6,rfl⟩:=agr B.o x7;have s:=aa (And.intro W6 has);clear W6 has x7;have F:b.length=a.aB.length:=s.o.1.length_eq;have bK:=aa (C.o.trans (E.mono C.o.size));have lM:=aa (show nL w.heap.size w3 (.slice (some (V w1 0)) 0 a.aB.length) [] from c5 mb.o E);obtain⟨kB,kC,rfl,uz,sL,I⟩:=bp D;rw[aoU]at uz I;unfold maxLen at sL;have gi:=aa D;clear D E;have pA:=aa I;clear I;have mM:=bK.o.size;clear hl dD mb;rw[aoU];rw[<-F]at Q;have P3:=aa F;clear F;go_wp2;go_loopw [6,18] (fun aok i wr=>∃k:Nat,k<=b.length/\i=A k/\nL w.heap.size wr aok ((b.take k).map (·.2))/\er wr (.slice kB b.length kC) (b.map (·.1))/\J w wr) (fun _ i _=>b.length-(intOf i).toNat)
 case atStart=>exact⟨0,aoR _,rfl,lM.o,by have :=gi.o.ids;rwa [aoU]at this,bK.o⟩
 case round=>
  obtain⟨k,hk,rfl,t,L,n⟩:=hrel;by_cases v:k<b.length
  ·obtain⟨g,rfl⟩:=pA.o k v
   obtain⟨bc,a6⟩:=er.cells L (by simp) k (by simpa using v);simp only[apy]at bc a6;have cP:g<wr.heap.size:=ao4 wr _ bc;have M:=(aoQ wr.heap.size wr).alloc (aoP _) (.cells #[A b[k].1.1,A b[k].1.2] 36);have dz:=(r.o _ (n.trans (M.mono n.size))).look b[k].1.1 b[k].1.2;have cy:=(r.o _ (n.trans (M.mono n.size)).drew).look b[k].1.1 b[k].1.2;have lT:bq (b[k].1.1,b[k].1.2) a.aB=some b[k].2:=E7 B.o (s.o.1.mem_iff.1 (aoY v));rw[lT]at dz cy;simp only[apr,oH]at dz cy;have N:=aa t;clear t;have cZ:=aa L;clear L;have sj:=n.size;have gD:=aa n;clear n lT M;go_wp2_with (at_builtin;go_must (refine Uh rfl (.tmp 22) (.tmp 26) rfl w.heap.size _ ((b.take k).map (·.2)) rfl ?h1 (wr.heap.size+1) 1 b[k].2 rfl ?h2 ?aL ?bW ?_;(case h1=>exact(N.o.alloc _).alloc _);(case h2=>exact Ug (by simp[go_sem]) (by simp[go_sem]) (by simp[go_sem]));(case aL=>simp;omega);(case bW=>simp;omega);intro v' w4 uA dB;have fi:=aa dB;clear dB;have jw:=aa uA;clear uA))
   go_roundw
   case rel=>
    have fC:J w w4:=nL.below ((N.o.alloc _).alloc _) ((gD.o.alloc sj _).alloc (by simp;omega) _) (by simp;omega) fi.o;refine⟨k+1,by omega,by go_num,by rw[El _ v];exact jw.o,?_,fC⟩;refine b4 cZ.o (fun g' fX=> ?_);obtain⟨Ku,xu⟩:=bt cZ.o fX;have TY:=aM xu;rw[fi.o.block g' (by simp;omega) (fun e=>by
     obtain⟨bd,fZ⟩:=bt ((N.o.alloc (.cells #[A b[k].1.1,A b[k].1.2] 36)).alloc (.cells #[A b[k].2.1,A b[k].2.2.1,A b[k].2.2.2] 57)) e.symm;exact absurd (bz (mi (mi xu)) fZ) (by decide))]
    rw[hV _ _ (by simp;omega),hV _ _ TY]
   case measure=>simp[intOf];omega
  ·go_wp2
   go_ret
   rw[apc (by omega)]at t;exact⟨_,b,rfl,s.o.1,s.o.2,t,n⟩
end
section
open Go.RowKit Tryz
attribute [local go_sem ↓] Go.wp_at_zero Go.wp_at_succ
variable {a:List (PId×av)}{b h l:World}{d i k:Nat}{e:Nat->Int}{f j:Nat->Prop}
def hO (m:List (PId×av)) (c n:Int):Nat->List av
 |0=>[]
 |f+1=>match bq (c,n+1) m with
  |none=>[]
  |some o=>o::hO m c (n+1) f
theorem run_get(m:List (PId×av))(c:Int):∀(f:Nat) (n:Int) (j:Nat) (a:j<(hO m c n f).length),bq (c,n+1+j) m=some (hO m c n f)[j]
 |0,n,j,a=>by simp[hO]at a
 |f+1,n,j,a=>by
  cases b:bq (c,n+1) m with
  |none=>simp[hO,b]at a
  |some o=>
   match j with
   |0=>simp[hO,b]
   |j+1=>
    have :=run_get m c f (n+1) j (by simpa[hO,b]using a);simp only[hO,b,ark];rw[<-this];congr 2;omega
theorem W7(m:List (PId×av))(c:Int):∀(f:Nat) (n:Int),(hO m c n f).length<f->bq (c,n+1+(hO m c n f).length) m=none
 |0,n,h=>by omega
 |f+1,n,h=>by
  cases a:bq (c,n+1) m with
  |none=>simp[hO,a]
  |some o=>
   have b:(hO m c (n+1) f).length<f:=by simpa[hO,a]using h
   have :=W7 m c f (n+1) b;simp only[hO,a,apd];rw[<-this];congr 2;omega
theorem P4(m:List (PId×av))(c:Int):∀(f:Nat) (n:Int),(hO m c n f).length<=f
 |0,n=>by simp[hO]
 |f+1,n=>by
  cases a:bq (c,n+1) m with
  |none=>simp[hO,a]
  |some o=>simpa[hO,a]using P4 m c f (n+1)
theorem ags(d:∀p∈a,p.1.2<=60){c n:Int}(f:0<=n):(hO a c n 61).length<61:=by
 have h:=P4 a c 61 n;rcases Nat.lt_or_ge (hO a c n 61).length 61 with b|b
 ·exact b
 ·have e:=run_get a c 61 n 60 (by omega)
  have :=d _ (fQ e);simp only at this;omega
def iq (m:List (PId×av)) (a:Nat->Int) (c:Nat):List av:=(List.range c).flatMap fun(i:Nat)=>hO m (i:Int) (a i) 61
def qm (m:List (PId×av)) (has:Nat->Int) (c:Nat):List PId:=(List.range c).flatMap fun(i:Nat)=>(List.range (hO m (i:Int) (has i) 61).length).map fun(j:Nat)=>((i:Int),has i+1+(j:Int))
theorem Lw(m:List (PId×av))(a:Nat->Int)(c:Nat):iq m a (c+1)=iq m a c++hO m c (a c) 61:=by
 unfold iq;rw[apz,apt];simp
theorem agt(m:List (PId×av))(a:Nat->Int)(c:Nat):qm m a (c+1)=qm m a c++(List.range (hO m (c:Int) (a c) 61).length).map fun(j:Nat)=>((c:Int),a c+1+(j:Int)):=by
 unfold qm;rw[apz,apt];simp
theorem W8(m:List (PId×av))(a:Nat->Int):∀c,(iq m a c).length<=c*61
 |0=>by simp[iq]
 |c+1=>by
  have b:=W8 m a c;have d:=P4 m (c:Int) 61 (a c);rw[Lw,aoW,apV];omega
theorem agu{x:PId}(h:x∈qm a e d):x.1<d:=by
 unfold qm at h;obtain⟨i,b,c⟩:=api.1 h;obtain⟨j,_,rfl⟩:=aoX.1 c;have :=apQ.1 b;simp only;omega
structure vh (m:List (PId×av)) (gone:List PId) (m':List (PId×av)):Prop where
 ji:(m'.map (·.1)).Nodup
 sub:∀p∈m',p∈m
 look:∀x,x∉gone->bq x m'=bq x m
 gone:∀x∈gone,bq x m'=none
theorem P5 {κ ν:Type} [DecidableEq κ] (x:κ):∀m:List (κ×ν),(pg x m).Sublist m
 |[]=>.slnil
 |p::m=>by
  unfold pg;split
  ·exact List.sublist_cons_self _ _
  ·exact(P5 x m).cons_cons p
theorem Lx {κ ν:Type} [DecidableEq κ] (x:κ) (p:κ×ν) (m:List (κ×ν)):bq x (p::m)=if x=p.1 then some p.2 else bq x m:=by
 unfold bq;rw[aqB];by_cases h:x=p.1<;>simp[h]
theorem P6 {κ ν:Type} [DecidableEq κ] {x y:κ} (h:x≠y):∀m:List (κ×ν),bq x (pg y m)=bq x m
 |[]=>rfl
 |p::m=>by
  unfold pg;split
  ·rename_i e
   rw[Lx,if_neg (fun a=>h (a.trans e.symm))]
  ·rw[Lx,Lx,P6 h m]
theorem W9 {κ ν:Type} [DecidableEq κ] {x:κ}:∀{m:List (κ×ν)},(m.map (·.1)).Nodup->bq x (pg x m)=none
 |[],_=>rfl
 |p::m,a=>by
  simp only[apb,apg]at a;unfold pg;split
  ·rename_i e
   exact ae0 (e▸a.1)
  ·rename_i e
   rw[Lx,if_neg e];exact W9 a.2
theorem vh.cut{m c}(h:vh m c a)(x:PId):vh m (c++[x]) (pg x a):=by
 have d:=P5 x a;refine⟨(d.map _).nodup h.ji,fun p f=>h.sub p (d.subset f),fun y b=> ?_,fun y b=> ?_⟩
 ·have g:y≠x:=fun e=>b (by simp[e])
  rw[P6 g,h.look y fun i=>b (apR _ i)]
 ·by_cases e:y=x
  ·subst e;exact W9 h.ji
  ·rw[P6 e]
   exact h.gone y (by simpa[e]using b)
theorem dx.Xa{F s gt u early q}(c:dx b i F j k s d gt e u early q)(n:aP (fun g=>g=q.il) b h)(E:∃w y,isMap cX PU h q.il a w y)(I:∀p∈a,pF b j (.iface p.2.t p.2.v) p.2.op.chg):dx h i F j k s d gt e u a q:=by
 have m:∀g,F g->g≠q.il->h.heap[g]?=b.heap[g]?:=fun g hF L=>n.other g (c.lt g hF) L
 have z:∀g,j g->h.heap[g]?=b.heap[g]?:=fun g B=>n.other g (c.cJ g B) fun l=>c.eT g B (l▸c.oZ)
 obtain⟨w,y,M⟩:=c.emap;obtain⟨N,P,Q⟩:=c.Df;have o:∀(g:Nat) (d:Array Value) (t:TypeId) (f:Nat×Nat),b.heap[g]?=some (.cells d t f)->g≠q.il:=fun g d t f m l=>by
  rw[l,M.blk]at m;cases m
 refine⟨by rw[m _ c.cd (o _ _ _ _ c.blk)];exact c.blk,by rw[m _ c.fr (o _ _ _ _ c.heard)];exact c.heard,c.jM.gB n.size (fun g hF=>m g (c.qN g hF) (fun l=>c.Be (l▸hF))) z,c.cnt,c.kd,E,fun p r=>(I p r).gU z (fun _ x=>x),⟨N,P,Q.gE (m _ c.vg (ao5 c.Dh))⟩,fun p r=> ?_,c.hc,c.hN,c.cd,c.fr,c.oZ,c.vg,c.qN,c.pL,c.Bd,c.Be,c.Dg,c.Dh,fun g hF=>aoV (c.lt g hF) n.size,c.eT⟩;obtain⟨⟨R,C⟩,S,D,U⟩:=c.zq p r;exact⟨⟨R,by rw[m _ D (o _ _ _ _ C)];exact C⟩,S,D,U⟩
theorem aP.over(a:aP f b h)(k:aP (fun k=>b.heap.size<=k) h l):aP f b l:=
 ⟨k.os.trans a.os,k.tape.trans a.tape,k.output.trans a.output,aoS a.size k.size,fun i c d=>(k.other i (aoV c a.size) (by omega)).trans (a.other i c d)⟩
theorem aP.agv{S}{c:Option Nat}(a:aP S b h)(d:h.grownBy l c)(e:∀k,c=some k->b.heap.size<=k):aP S b l:=
 a.over (aP.rN d e)
def Xb:Value->Nat
 |.slice _ n _=>n
 |_=>0
theorem Xc(W:World):(zeroValue 210).run prog W=.ok (.agg #[A 0,A 0,A 0,.nilIface]) W:=by kernel_rfl
theorem agw{I c gt ops early q}(h:dx b i j I d k c gt e ops early q)(cB:(early.map (·.1)).Nodup)(qo:∀p∈early,p.1.2<=60)(ik:∀m,m<d->0<=e m/\e m<=1000):
  O 310 #[Z i] b fun n w'=>∃v ir,n=.returned v/\fH b.heap.size w' v (iq early e d)/\dx w' i j I d k c gt e ops ir q/\vh early (qm early e d) ir/\aP (fun a=>a=q.il) b w':=by
 have Bf:=h.hN;obtain⟨bc,a6,bd,bV,dC,im⟩:=h.cells;clear bc a6 bV dC im;have L:=aa h;clear h;have gM:=aa (And.intro cB (And.intro qo ik));clear cB qo ik;go_enter func310,ntmps310;go_wp2_with fail
 go_loopw [3,14] (fun v m wr=>∃a ir,a<=d/\m=A (a:Nat)/\fH b.heap.size wr v (iq early e a)/\dx wr i j I d k c gt e ops ir q/\vh early (qm early e a) ir/\aP (fun a=>a=q.il) b wr) (fun _ m _=>d-(intOf m).toNat)
 case atStart=>exact⟨0,early,aoR _,rfl,(show fH b.heap.size b (.slice none 0 0) [] from ao9 _ _ _ _),L.o,⟨gM.o.1,fun _ x=>x,fun _ _=>rfl,fun x D=>by cases D⟩,aP.cQ (aoQ _ _)⟩
 case round=>
  obtain⟨a,Ly,R,rfl,bm,bA,fx,b9⟩:=hrel;by_cases aE:a<d
  ·have q7:=bA.Fm aE
   obtain⟨LA,zs⟩:=gM.o.2.2 a aE;have h5:(0:Int)<=(a:Int):=ao0 _;have c3:(a:Int)<(d:Int):=by omega
   have PY:IntKind.i64.wrap (e a+1)=e a+1:=apO _ (by omega);have M:=aa (And.intro bm (And.intro bA (And.intro fx b9)));clear bm bA fx b9;obtain⟨N,rZ⟩:∃N,N=wr:=⟨_,rfl⟩;subst rZ;go_wp2_with fail
   have fa:=ags gM.o.2.1 (c:=(a:Int)) LA;obtain⟨run,P7⟩:∃run,run=hO early (a:Int) (e a) 61:=⟨_,rfl⟩;rw[<-P7]at fa;have U:=aa P7;have db:=aa (W8 early e a);have fl:(iq early e a).length<=200:=by have :=db.o;omega
   obtain⟨s,nR⟩:∃s,s=iq early e a:=⟨_,rfl⟩;obtain⟨cf,mv⟩:∃cf,cf=qm early e a:=⟨_,rfl⟩;rw[<-nR]at fl M;rw[<-mv]at M;have P8:=aa (And.intro nR (And.intro mv fun x (D:x∈cf)=>agu (mv▸D)));clear P7 nR mv q7;have a1:=aa (show J N (N.alloc (.cells #[A a,A (e a+1)] 371)) from(aoQ _ N).alloc (aoP _) _);go_loopw [3,6] (fun v r lX=>∃l X C,r=Z C/\b.heap.size<=C/\lX.heap[C]?=some (.cells #[A a,A (e a+1+(l:Nat))] 371 (0,0))/\l<=run.length/\fH b.heap.size lX v (s++run.take l)/\dx lX i j I d k c gt e ops X q/\vh early (cf++(List.range l).map fun(m:Nat)=>((a:Int),e a+1+(m:Int))) X/\aP (fun a=>a=q.il) b lX) (fun v _ _=>1000-Xb v)
   case atStart=>
    refine⟨0,Ly,N.heap.size,rfl,M.o.2.2.2.size,?_,aoR _,?_,M.o.2.1.af a1.o,?_,M.o.2.2.2.trans (aP.cQ a1.o)⟩
    ·have :=bL N (.cells #[A a,A (e a+1)] 371)
     simpa using this
    ·rw[List.take_zero,apu];exact c5 M.o.1 a1.o
    ·rw[List.range_zero,apU,apu];exact M.o.2.2.1
   case round=>
    obtain⟨l,X,C,rfl,hBx,Y,ix,fv,r0,P9,tQ⟩:=hrel;have u:=aa (And.intro fv (And.intro r0 (And.intro P9 tQ)));obtain⟨d0,d1,d2,d3,d4,d5⟩:=r0.cells;clear d0 d1 d2 d3 d5;obtain⟨cr,bx⟩:=bh Y;obtain⟨es,aR,hf⟩:=r0.emap;have uf:=P9.look ((a:Int),e a+1+(l:Int)) (fun D=>by
     rcases aoZ.1 D with D|D
     ·have :=P8.o.2.2 _ D
      simp only at this;omega
     ·obtain⟨m,hi,he⟩:=aoX.1 D
      have :=apQ.1 hi;injection he with _ he;omega)
    have fN:=aM Y;have tb:wr.heap.size≠q.il:=by have :=r0.lt _ r0.oZ;omega
    have agx:C≠q.il:=fun n=>by have :=L.o.lt _ L.o.oZ;omega
    obtain⟨dp,de,rfl,sD,ve,td⟩:=bp fv;clear td;unfold maxLen at ve;have W1:=tQ.size;clear fv r0 P9 tQ;by_cases ar:l<run.length
    ·have E:=run_get early (a:Int) 61 (e a) l (by rw[<-U.o];exact ar)
     obtain⟨o,ae⟩:∃o,o=run[l]:=⟨_,rfl⟩;have fX:bq ((a:Int),e a+1+(l:Int)) X=some o:=by
      rw[uf,E,ae];congr 1;exact List.getElem_of_eq U.o.symm _
     have cL:=aa (show s++run.take (l+1)=(s++run.take l)++[o] by rw[aph ar,<-ae,apf]);clear ae E uf;have sJ:(s++run.take l).length<=300:=by rw[aoW,ao7];omega
     have qQ:=aa (show(s++run.take l).length=s.length+l by rw[aoW,ao7];omega);obtain⟨y,vi⟩:∃y,y=s++run.take l:=⟨_,rfl⟩;rw[<-vi]at cL u sJ sD qQ⊢;clear vi;have w:∀W,J wr W->(Instr.lookup 106 (.map (some q.il)) (.agg #[A a,A (e a+1+(l:Int))]) true).run prog W=.ok (.tuple #[.agg #[A o.op.id.1,A o.op.id.2,A o.op.nth,.iface o.t o.v],.bool true]) W:=fun W ab=>by
      have :=yy Lr (hf.af ab) underlying106 (Xc W) ((a:Int),e a+1+(l:Int)) true;rw[fX]at this;exact this
     have dz:=w wr (aoQ _ _);have cy:=w wr.drew (aoQ _ _).drew;have yS:=w _ ((aoQ wr.heap.size wr).alloc (aoP _) (.cells #[A 0,A 0,A 0,.nilIface] 210));have Fv:=w _ ((aoQ wr.heap.size wr).alloc (aoP _) (.cells #[A 0,A 0,A 0,.nilIface] 210)).drew;have sX:=aa w;clear w;have Dj:=aa hf;clear hf;have sI:=aa Y;clear Y;have od:=ao4 wr _ d4;simp only at od;have gp:=World.new_ne wr (K i 4) d4;have v8:=World.new_ne wr (H C) cr;have B:=aa (((aoQ wr.heap.size wr).alloc (aoP _) (.cells #[A o.op.id.1,A o.op.id.2,A o.op.nth,.iface o.t o.v] 210)).drew.drew);obtain⟨AJ,Qa,vZ⟩:=SZ Lr (Dj.o.af B.o) underlying106 (ty:=0) (t2:=371) ((a:Int),e a+1+(l:Int));simp only[cX]at Qa;have F:=aa (show aP (fun a=>a=q.il) _ (putObj (wr.alloc (.cells #[A o.op.id.1,A o.op.id.2,A o.op.nth,.iface o.t o.v] 210)).drew.drew q.il (.map AJ aR)) from aP.put _ rfl);have zb:=aa vZ;clear vZ;obtain⟨z,Qb⟩:∃z,putObj (wr.alloc (.cells #[A o.op.id.1,A o.op.id.2,A o.op.nth,.iface o.t o.v] 210)).drew.drew q.il (.map AJ aR)=z:=⟨_,rfl⟩;have Xd:z.heap.size=wr.heap.size+1:=by rw[<-Qb];simp[putObj]
     rw[Qb]at Qa zb F;have HZ9:=aa Xd;clear Qb Xd;obtain⟨eO,fL,kM,mJ⟩:=xJ wr (A o.op.id.1) (A o.op.id.2) (A o.op.nth) (.iface o.t o.v) 210;replace eO:=F.o.cell tb eO;replace fL:=F.o.cell tb fL;replace kM:=F.o.cell tb kM;replace mJ:=F.o.cell tb mJ;have Xe:=aa ((F.o.other C (aoV fN B.o.size) agx).trans (bj sI.o B.o));have Xf:=af B.o d4;have b0':=af B.o cr;have CJ:=af B.o bx;have Xg:=aa (show fH b.heap.size z (.slice dp y.length de) y from b4 (c5 u.o.1 B.o) fun g E=>F.o.other g (by obtain⟨cur,hc⟩:=bt (c5 u.o.1 B.o) E;exact aM hc) (fun n=>by
      have h1:=(aoT u.o.1 _ E).1;have :=L.o.lt _ L.o.oZ;omega))
     have bM:=aa ((aoQ z.heap.size z).alloc (aoP _) (.cells #[A o.op.id.1,A o.op.id.2,A o.op.nth,.iface o.t o.v] 210));have HQ:=aa (OP (x:=o) (xJ z (A o.op.id.1) (A o.op.id.2) (A o.op.nth) (.iface o.t o.v) 210).1 (xJ z (A o.op.id.1) (A o.op.id.2) (A o.op.nth) (.iface o.t o.v) 210).2.1 (xJ z (A o.op.id.1) (A o.op.id.2) (A o.op.nth) (.iface o.t o.v) 210).2.2.1 (xJ z (A o.op.id.1) (A o.op.id.2) (A o.op.nth) (.iface o.t o.v) 210).2.2.2);have Qc:=aa (show(Value.slice dp y.length de).ownBlock≠some C from fun n=>by
      obtain⟨cur,hc⟩:=bt Xg.o n;exact absurd (bz hc Xe.o) (by decide))
     have Fw:=aa (bj Xe.o bM.o);have nO:=aa (fun a (R:(Value.slice dp y.length de).ownBlock=some a)=>(aoT u.o.1 a R).1);go_wp2_with fail
     go_region
     all_goals go_wp2_with fail
     all_goals clear dz cy yS Fv d4 cr bx
     all_goals go_region
     all_goals clear Xf b0' CJ Qa
     all_goals go_wp2_with (first
      |(at_builtin;refine zd dn 4 40 202 210 (.agg #[A 0,A 0,A 0,.nilIface]) (by kernel_rfl) underlying202 rfl (by omega) (fun _=>rfl) rfl (.tmp 43) (.tmp 45) rfl b.heap.size (.slice dp y.length de) y rfl (c5 Xg.o bM.o) z.heap.size 1 o rfl HQ.o (AN o) (by omega) (by unfold maxLen;omega) (by have :=HZ9.o;simp;omega) ?_;intro v' P Bh zu HR;have Dk:=aa Bh;have Fx:=aa zu;obtain⟨jS,q1⟩:=bh (((aP.rN (S:=fun a=>(Value.slice dp y.length de).ownBlock=some a) zu (fun a R=>R)).other C (aM Fw.o) Qc.o).trans Fw.o);clear Bh zu HR eO fL kM mJ)
      |fail)
     all_goals go_roundw
     case rel|rel=>
      have Xh:aP (fun a=>a=q.il) b P:=(u.o.2.2.2.trans ((aP.cQ B.o).trans (F.o.trans (aP.cQ bM.o)))).agv Fx.o nO.o;have hR9:dx z i j I d k c gt e ops (pg ((a:Int),e a+1+(l:Int)) X) q:=(u.o.2.1.af B.o).Xa F.o ⟨_,_,zb.o⟩ fun p ag=>(u.o.2.1.af B.o).Bc p ((P5 _ _).subset ag)
      have Qd:=hR9.af bM.o;have Qe:=aP.rN (S:=fun a=>(Value.slice dp y.length de).ownBlock=some a) Fx.o (fun a R=>R);have agy:=Qd.gB Qe.size (fun a hF=>Qe.other a (Qd.lt a hF) fun n=>by have :=nO.o a n;have :=L.o.lt a hF;omega) (fun a hF=>Qe.other a (Qd.cJ a hF) fun n=>by have :=nO.o a n;have :=L.o.cJ a hF;omega);have Q:J P (P.alloc (.cells #[A a,A (e a+1+(l:Int)+1)] 371)):=(aoQ _ P).alloc (aoP _) _;refine⟨l+1,_,P.heap.size,rfl,Xh.size,?_,by omega,?_,agy.af Q,?_,Xh.trans (aP.cQ Q)⟩
      ·have :=bL P (.cells #[A a,A (e a+1+(l:Int)+1)] 371)
       rw[this,show e a+1+(l:Int)+1=e a+1+((l+1:Nat):Int) by omega]
      ·rw[cL.o]
       refine c5 ?_ Q;have :=Dk.o;show P.ownsRow b.heap.size 210 4 v' (y++[o]).length ((y++[o]).flatMap dn);rwa [aoW]
      ·have :=u.o.2.2.1.cut ((a:Int),e a+1+(l:Int))
       rwa [apf,<-List.map_singleton (f:=fun(m:Nat)=>((a:Int),e a+1+(m:Int))),<-ao8,<-apz]at this
     case measure|measure=>
      obtain⟨ku,b2,rfl,_,_,_⟩:=bp Dk.o;simp only[Xb];omega
    ·have q4:l=run.length:=by omega
     have E:=W7 early (a:Int) 61 (e a) (by rw[<-U.o];exact fa);rw[<-U.o,<-q4]at E;rw[E]at uf;have w:∀W,J wr W->(Instr.lookup 106 (.map (some q.il)) (.agg #[A a,A (e a+1+(l:Int))]) true).run prog W=.ok (.tuple #[.agg #[A 0,A 0,A 0,.nilIface],.bool false]) W:=fun W ab=>by
      have :=yy Lr (hf.af ab) underlying106 (Xc W) ((a:Int),e a+1+(l:Int)) true;rw[uf]at this;exact this
     have dz:=w wr (aoQ _ _);have cy:=w wr.drew (aoQ _ _).drew;have yS:=w _ ((aoQ wr.heap.size wr).alloc (aoP _) (.cells #[A 0,A 0,A 0,.nilIface] 210));have Fv:=w _ ((aoQ wr.heap.size wr).alloc (aoP _) (.cells #[A 0,A 0,A 0,.nilIface] 210)).drew;have sX:=aa w;clear w uf;have Dj:=aa hf;clear hf;have sI:=aa Y;clear Y;have od:=ao4 wr _ d4;simp only at od;have gp:=World.new_ne wr (K i 4) d4;have v8:=World.new_ne wr (H C) cr;have HRT:=aa (show s++run.take l=iq early e (a+1) by rw[Lw,<-P8.o.1,<-U.o,q4,aqa]);have HGT:=aa (show cf++(List.range l).map (fun(m:Nat)=>((a:Int),e a+1+(m:Int)))=qm early e (a+1) by rw[agt,<-P8.o.2.1,<-U.o,q4]);clear q4 ar E;go_wp2_with fail
     go_region
     all_goals go_wp2_with fail
     all_goals
      have Q:J wr (wr.alloc (.cells #[A 0,A 0,A 0,.nilIface] 210)).drew:=((aoQ wr.heap.size wr).alloc (aoP _) _).drew;refine⟨⟨a+1,X,by omega,by go_num,?_,u.o.2.1.af Q,?_,u.o.2.2.2.trans (aP.cQ Q)⟩,by simp[intOf];omega⟩
      ·have h1:=c5 u.o.1 Q
       rw[<-HRT.o];rw[show(s++run.take l).length=s.length+l by rw[aoW,ao7];omega]at h1;show World.ownsRow _ _ _ _ _ (s++run.take l).length _;rw[show(s++run.take l).length=s.length+l by rw[aoW,ao7];omega];exact h1
      ·rw[<-HGT.o]
       exact u.o.2.2.1
  ·have hL:a=d:=by omega
   have aT:=aa (And.intro bm (And.intro bA (And.intro fx (And.intro b9 hL))));clear bm bA fx b9 hL;go_wp2_with fail
   go_ret
   obtain⟨h1,h2,ak,aL,rfl⟩:=aT.o;exact⟨_,Ly,rfl,h1,h2,ak,aL⟩
end
section
open Go.RowKit Go.Sort Go.Shelf Tryz
attribute [local go_sem ↓] Go.wp_at_zero Go.wp_at_succ
def dX (x:av):PId:=(x.op.id.2,x.op.nth)
def Qf (x y:av):Int:=nQ (dX x) (dX y)
theorem agz:SWO (ltOf Qf):=⟨fun x=>Lo.1 (dX x),fun x y z=>Lo.2 (dX x) (dX y) (dX z),fun x y z=>Lo.3 (dX x) (dX y) (dX z)⟩
theorem agA(x y:av)(w:World):
  O 282 #[.agg #[A x.op.id.1,A x.op.id.2,A x.op.nth,.iface x.t x.v],.agg #[A y.op.id.1,A y.op.id.2,A y.op.nth,.iface y.t y.v]] w fun e c=>e=.returned (A (Qf x y))/\∃q d,c=grow (w.drewN q) d:=by
 go_enter func282,ntmps282;go_wp2_with fail
 go_region_held3 (fun W=>W.cell? (V w 1)=some (A x.op.id.2)/\W.cell? (V w 2)=some (A x.op.nth)/\W.cell? (K (w.heap.size+1) 1)=some (A y.op.id.2)/\W.cell? (K (w.heap.size+1) 2)=some (A y.op.nth)) (go_keep)
  (first
   |(go_at_call 166;refine(OL _ _ _).mono ?_;rintro e c ⟨rfl,rfl⟩)
   |(go_at_call 165;refine(OM (g:=w.heap.size+2) (a:=uU x.op.id.2 y.op.id.2) (b:=uU x.op.nth y.op.nth) ?_ ?_).mono ?_;(exact(E1 _ _ _ _ _ _).1);(exact(E1 _ _ _ _ _ _).2);rintro e c ⟨rfl,rfl⟩))
 all_goals go_wp2
 all_goals go_ret
 all_goals exact⟨rfl,1,_,WA _ _ _ _⟩
theorem agB(args:Array Value)(w:World):(callFunc 282 args).run prog w=.ok (.enter 282 args) w:=
 enters_of func282 (by kernel_rfl) rfl args w
def x8 (l:List av):Prop:=l.Pairwise fun x y=>eK (dX x) (dX y)=true
theorem agC{l:List av}(e:(l.map dX).Nodup)(f:∀i j (a:i<l.length) (b:j<l.length),i<j->eK (dX l[j]) (dX l[i])=false):x8 l:=by
 unfold x8;rw[apM];intro i j a b c;cases h:eK (dX l[i]) (dX l[j]) with
 |true=>rfl
 |false=>
  exfalso;have :=PK h (f i j a b c);have d:=apM.1 e i j (by simpa using a) (by simpa using b) c;simp only[apy]at d;exact d this
theorem agD(a:Option Addr)(c:Nat)(f:Value)(w:World):O 286 #[.slice a 0 c,A 0,A 0,f] w fun e b=>e=.returned (.tuple #[])/\J w b:=by
 go_enter func286,ntmps286;go_wp2;refine wp_loop_rounds 1 ?_;rw[rounds_succ];go_wp2;go_end0
 exact⟨rfl,aoQ _ _⟩
theorem agE(a:Option Addr)(c:Nat)(b:Int)(f:Value)(w:World):O 285 #[.slice a 0 c,A 0,A 0,A b,f] w fun e d=>e=.returned (.tuple #[])/\J w d:=by
 have g:=aa (agD a c f w);go_enter func285,ntmps285;go_wp2_with fail
 refine wp_loop_rounds 1 ?_;rw[rounds_succ];go_wp2_with fail
 refine g.o.mono ?_;rintro e i ⟨rfl,h⟩;go_wp2;exact bodyPost_ret (v:=.tuple #[]) (by simp[results,results285,go_sem]) rfl ⟨rfl,h⟩
theorem agF(a:Option Addr)(c:Nat)(f:Value)(w:World):O 281 #[.slice a 0 c,f] w fun e d=>e=.returned (.tuple #[])/\J w d:=by
 have g:=aa (Up 0 (by omega) w);have h:=aa (fun b=>agE a c b f w);go_enter func281,ntmps281;go_wp2_with fail
 refine g.o.mono ?_;rintro e j ⟨⟨b,rfl⟩,rfl⟩;go_wp2_with fail
 refine(h.o b).mono ?_;rintro e k ⟨rfl,i⟩;go_wp2;go_end0
 exact⟨rfl,i⟩
theorem agG{B w u l}(h:fH B w u l)(C:(l.map dX).Nodup)(Y:l.length<=10000):
  O 281 #[u,.func (.func 282) #[] #[]] w fun e o=>e=.returned (.tuple #[])/\∃p,p.Perm l/\x8 p/\fH B o u p/\w.grownBy o u.ownBlock:=by
 by_cases D:l.length=0
 ·have :l=[]:=aqg D
  subst this;obtain⟨a,c,rfl,_,_,_⟩:=bp h;refine(agF a c _ w).mono ?_;rintro e o ⟨rfl,d⟩;exact⟨rfl,[],.refl _,List.Pairwise.nil,c5 h d,⟨d.os,d.tape,d.output,d.size,fun k E _=>d.block k E⟩⟩
 ·haveI:Inhabited av:=⟨⟨⟨(0,0),0,.inl false⟩,0,.nilIface⟩⟩
  obtain⟨a,c,rfl,jk,dh,F⟩:=bp h;obtain⟨g,rfl⟩:=F 0 (by omega);obtain⟨I,L⟩:=WE dn 4 (fun _=>rfl) h;have q:=AnyQ.slices_SortFunc sortOps 4 isAgg210 sizeOf210 dn (fun _=>rfl) (fun x v r=>by simp[dn]at r;rcases r with rfl|rfl|rfl|rfl<;>rfl) Qf agz 282 #[] g 0 c l.toArray w agB (fun m s dk _ x y=>agA x y _) I L (by simp;omega);change O 281 _ _ _ at q;simp only[ap8]at q;refine q.mono ?_;rintro e o ⟨rfl,b,n,s,M,N,rfl⟩;obtain⟨f,_,P⟩:=M;simp at f;obtain⟨Q,R⟩:=WD dn 4 (fun _=>rfl) h n b f s;have t:b.toList.Perm l:=by
   have S:(b.extract 0 l.length).toList=b.toList:=by rw[<-f];simp
   have U:(l.toArray.extract 0 l.length).toList=l:=by simp
   rwa [S,U]at P
  refine⟨rfl,b.toList,t,agC ((t.map dX).nodup_iff.2 C) (fun i j W z X=> ?_),?_,R⟩
  ·have :=N i j (aoR _) X (by simpa[f]using z)
   rw[getElem!_pos b j (by simpa using z),getElem!_pos b i (by simpa using W)]at this;simp only[Array.getElem_toList];exact this
  ·unfold fH
   rw[show b.toList.length=l.length by simp[f]];exact Q
end
end Go.Proofs.YtnkpogjiiohapaaGreatDoor
