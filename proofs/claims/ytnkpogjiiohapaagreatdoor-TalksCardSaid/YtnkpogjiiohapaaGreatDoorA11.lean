/- Our own text. -/
import Derived.Shelf.SlMaps.Clone
import Derived.Deep.RegionHeld3
import Derived.Deep.DrawnRows
import Derived.Deep.QuietTactic
import Derived.BigQuiet
import Derived.Test.YtnkpogjiiohapaaGreatDoorA10
set_option linter.unusedSimpArgs false
set_option linter.unusedVariables false
set_option maxRecDepth 1000000
set_option maxHeartbeats 3200000
namespace Go.Proofs.YtnkpogjiiohapaaGreatDoor
section
open Go.RowKit Tryz
variable {a l:cN}{b e h:Nat}{d:World}{f k:Value}{i:List PId}{j:Nat->Prop}
theorem aep(c:cu d h b e a.1 a.2)(z:fR b e j a.1 a.2)(D:fG a)(o x g:PId)(p:ByteArray)(E:er d f i)(F:∀k,d.heap.size<=k->j k):
  O 304 #[.agg #[A o.1,A o.2,.string p,A x.1,A x.2,f],Z h,.agg #[A g.1,A g.2]] d fun l q=>(∃r,l=.returned r)/\
   (∃m,AL a o p x i m/\cu q h b e m.1 m.2/\fR b e j m.1 m.2)/\aP (fun k=>k=b\/k=e) d q:=by
 obtain⟨t,u⟩:=o;obtain⟨w,y⟩:=x;obtain⟨B,C⟩:=g;cases s:lA a.1 a.2 (t,u) p (w,y) with
 |false=>
  exact(aem c t u w y B C p f s).mono fun l q n=>⟨n.1,⟨a,by simp[AL,s],c.af n.2,z⟩,aP.cQ n.2⟩
 |true=>
  refine(aeo c z D t u w y B C p E s F).mono fun l q n=>⟨n.1,?_,n.2.2⟩
  obtain⟨m,v,I,L,M,N,P⟩:=n.2.1;exact⟨m,by unfold AL;rw[if_pos s];exact⟨v,I,L,M⟩,N,P⟩
def xG (D:cN) (o:PId) (key:ByteArray) (x:PId) (a:PId):Bool:=lA D.1 D.2 o key x&&(bq a D.1).isSome
def AM (D:cN) (o:PId) (key:ByteArray) (x:PId) (a:dR) (d:List PId) (i:PId) (b:cN):Prop:=
 if xG D o key x a.2 then ∃v c,c.Perm (qR d (eY D.1 D.2 o key x).aB)/\AK D o key x (some v) (cv i a c) b else b=D
theorem G6{c a e x y z s:Value}{t:TypeId}{g:Nat×Nat}(h:d.heap[b]?=some (.cells #[f,k,c,a,e,x,y,z,s] t g)):
  d.cell? (H b)=some f/\d.cell? (K b 1)=some k/\d.cell? (K b 2)=some c/\d.cell? (K b 3)=some a/\d.cell? (K b 4)=some e/\d.cell? (K b 5)=some x/\d.cell? (K b 6)=some y/\d.cell? (K b 7)=some z/\d.cell? (K b 8)=some s:=by simp[World.cell?,h]
theorem aeq(f:cu d b e h a.1 a.2)(g i j k y p q z B:Int)(l:ByteArray)(s:Value)(m:xG a (g,i) l (j,k) (p,q)=false):
  O 299 #[.agg #[A g,A i,.string l,A j,A k,A y,A p,A q,s],Z b,.agg #[A z,A B]] d fun c F=>(∃r,c=.returned r)/\J d F:=by
 have t:=aa (((aoQ d.heap.size d).alloc (aoP _) (.cells #[A g,A i,.string l,A j,A k,A y,A p,A q,s] 182)).alloc (by simp) (.cells #[A z,A B] 36));have w:=aa (GY (f.af t.o) g i j k l);have I:=aa f;clear f;go_enter func299,ntmps299;unfold xG at m;cases x:lA a.1 a.2 (g,i) l (j,k) with
 |false=>
  rw[x]at w;clear m x;go_wp2_with fail
  refine w.o.mono ?_;rintro c C ⟨rfl,n⟩;have u:=aa (t.o.trans (n.mono t.o.size));clear n;go_wp2;exact bodyPost_ret (v:=.tuple #[]) (by simp[results,results299,go_sem]) rfl ⟨⟨_,rfl⟩,u.o⟩
 |true=>
  rw[x]at w m;rw[Bool.true_and]at m;clear x;go_wp2_with fail
  refine w.o.mono ?_;rintro c C ⟨rfl,n⟩;have L:=aa (show C.heap[d.heap.size]?=some (.cells #[A g,A i,.string l,A j,A k,A y,A p,A q,s] 182 (0,0)) by rw[n.block d.heap.size (by simp;omega)];exact mi (bL _ _));have u:=aa (t.o.trans (n.mono t.o.size));clear n;obtain⟨N,P,Q,R,S,U,W,X,Y⟩:=G6 L.o;have D:=aa (GO (I.o.af u.o) p q);rw[m]at D;clear m;go_wp2_with fail
  refine D.o.mono ?_;rintro c w2 ⟨rfl,E⟩;have M:=aa (u.o.trans (E.mono u.o.size));clear E;go_wp2;exact bodyPost_ret (v:=.tuple #[]) (by simp[results,results299,go_sem]) rfl ⟨⟨_,rfl⟩,M.o⟩
theorem aer{l}(h:cu d l b e a.1 a.2)(ae:fR b e j a.1 a.2)(hn:fG a)(q s t u C x y R U:Int)(w:ByteArray)(ad:er d f i)(D:xG a (q,s) w (t,u) (x,y)=true)(qc:∀k,d.heap.size<=k->j k):
  O 299 #[.agg #[A q,A s,.string w,A t,A u,A C,A x,A y,f],Z l,.agg #[A R,A U]] d fun c w'=>(∃r,c=.returned r)/\
   (∃E v aB,aB.Perm (qR i (eY a.1 a.2 (q,s) w (t,u)).aB)/\AK a (q,s) w (t,u) (some v) (cv (R,U) (C,x,y) aB) E/\cu w' l b e E.1 E.2/\fR b e j E.1 E.2)/\aP (fun k=>k=b\/k=e) d w':=by
 have a1:=aa (((aoQ d.heap.size d).alloc (aoP _) (.cells #[A q,A s,.string w,A t,A u,A C,A x,A y,f] 182)).alloc (by simp) (.cells #[A R,A U] 36));have b8:=aa (GY (h.af a1.o) q s t u w);unfold xG at D;rw[Bool.and_eq_true]at D;rw[D.1]at b8;have W:=aa h;clear h;have cL:=aa ae;clear ae;have pC:=aa hn;clear hn;have HIS:=aa ad;clear ad;have db:=aa D.1;have CP:=aa D.2;clear D;have oM:=aa qc;clear qc;go_enter func299,ntmps299;go_wp2_with fail
 refine b8.o.mono ?_;rintro c w1 ⟨rfl,X⟩;have CO:=aa (show w1.heap[d.heap.size]?=some (.cells #[A q,A s,.string w,A t,A u,A C,A x,A y,f] 182 (0,0)) by rw[X.block d.heap.size (by simp;omega)];exact mi (bL _ _));have tM:=aa (show w1.heap[d.heap.size+1]?=some (.cells #[A R,A U] 36 (0,0)) by rw[X.block (d.heap.size+1) (by simp)];exact(by simp :(d.alloc (.cells #[A q,A s,.string w,A t,A u,A C,A x,A y,f] 182)).heap.size=d.heap.size+1)▸bL (d.alloc (.cells #[A q,A s,.string w,A t,A u,A C,A x,A y,f] 182)) _);have ax:=aa (a1.o.trans (X.mono a1.o.size));clear X;obtain⟨F,I,L,M,N,Y,t6,t7,P⟩:=G6 CO.o;have hT:=aa (GO (W.o.af ax.o) x y);rw[CP.o]at hT;go_wp2_with fail
 refine hT.o.mono ?_;rintro c Q ⟨rfl,aU⟩;have iC:=aa (bj CO.o aU);have Vn:=aa (bj tM.o aU);have bf:=aa (ax.o.trans (aU.mono ax.o.size));clear aU;clear F I L M N Y t6 t7 P;obtain⟨F,I,L,M,N,Y,t6,t7,P⟩:=G6 iC.o;have hz2:=bf.o.size;have am1:=aM Vn.o;have G7:=aa (show J Q Q.drew from(aoQ _ Q).drew);have bR:=aa (KF (W.o.af bf.o.drew) q s t u w);have dN:=aa (W.o.at (q,s) w (t,u));have nn:=aa (pC.o.at (q,s) w (t,u));go_wp2;go_cut [6] (fun p wc=>∃g m es aR,p=.map (some g)/\Q.heap.size<=g/\m.Perm (qR i (eY a.1 a.2 (q,s) w (t,u)).aB)/\isMap cX oH wc g m es aR/\J Q wc)
 case first =>
  go_region_with (first
   |(go_at_call 86;refine bR.o.mono ?_;rintro c w3 ⟨rfl,a8⟩;have z:J Q w3:=G7.o.trans a8;replace F:=af z F;replace I:=af z I;replace L:=af z L;replace M:=af z M;replace N:=af z N;replace P:=af z P;have bK:=aa (bf.o.trans (z.mono hz2));have n9:=aa z;clear a8 z;have mM:=n9.o.size;have dH:=aa (Vf (dN.o.af bK.o) nn.o (HIS.o.af bK.o)))
   |(go_at_call 300;refine dH.o.mono ?_;rintro c w4 ⟨⟨g,m4,AJ,G5,rfl,dB,Vo,vZ⟩,fC⟩;have B:=aa (And.intro Vo (And.intro vZ (n9.o.trans (fC.mono mM))));clear Vo vZ fC))
  all_goals(go_wp2_with fail;go_meet)
  all_goals exact⟨_,_,_,_,rfl,aoS mM dB,B.o.1,B.o.2.1,B.o.2.2⟩
 case rest=>
  obtain⟨g,m,es,aR,rfl,ah,pz,hm,CQ⟩:=hcut;have G4:=aa pz;clear pz;have bG:=aa hm;clear hm;have Vp:=aa (bj iC.o CQ);have vW:=aa (bj Vn.o CQ);have k8:=aa (bf.o.trans (CQ.mono hz2));clear CQ;clear F I L M N Y t6 t7 P;obtain⟨F,I,L,M,N,Y,t6,t7,P⟩:=G6 Vp.o;obtain⟨a0,b1⟩:=bh vW.o;obtain⟨OI,OJ,rJ,E0⟩:=xc xd bG.o underlying159 (R,U) (C,x,y);simp only[cX,oH]at rJ;have xF:=aa E0;clear E0;have lD:=aa (show J d (putObj wc g (.map OI OJ)) from k8.o.trans (aP.under (aP.put (S:=fun k=>k=g) _ rfl) (fun k hk=>by omega) k8.o.size));have Vq:=aa (show(putObj wc g (.map OI OJ)).heap[d.heap.size]?=_ from(tA (by omega)).trans Vp.o);obtain⟨w5,rK⟩:∃w5,w5=putObj wc g (.map OI OJ):=⟨_,rfl⟩;rw[<-rK]at rJ xF lD Vq;clear rK;obtain⟨s0,s1,s2,s3,s4,s5,s6,s7,s8⟩:=G6 Vq.o;have oQ:=aa (Vl (W.o.af lD.o) cL.o pC.o (q,s) (t,u) w db.o (show iN w5 (some g) _ from .inr ⟨_,_,_,rfl,xF.o⟩) (fun n ab=>oM.o n (by injection ab with ab;omega)) (fun k hk=>oM.o k (aoS lD.o.size hk)));go_wp2_with fail
  refine oQ.o.mono ?_;rintro c w6 ⟨⟨r,rfl⟩,⟨E,iK,Vr,Vs⟩,Vt⟩;have B:=aa (And.intro iK (And.intro Vr (And.intro Vs ((aP.cQ lD.o).trans Vt))));clear iK Vr Vs Vt;go_wp2;go_end0
  exact⟨⟨_,rfl⟩,⟨_,_,_,G4.o,B.o.1,B.o.2.1,B.o.2.2.1⟩,B.o.2.2.2⟩
theorem aes(g:cu d h b e a.1 a.2)(D:fR b e j a.1 a.2)(L:fG a)(o x c:PId)(p:dR)(q:ByteArray)(M:er d f i)(N:∀k,d.heap.size<=k->j k):
  O 299 #[.agg #[A o.1,A o.2,.string q,A x.1,A x.2,A p.1,A p.2.1,A p.2.2,f],Z h,.agg #[A c.1,A c.2]] d fun l s=>(∃r,l=.returned r)/\
   (∃m,AM a o q x p i c m/\cu s h b e m.1 m.2/\fR b e j m.1 m.2)/\aP (fun k=>k=b\/k=e) d s:=by
 obtain⟨u,w⟩:=o;obtain⟨y,z⟩:=x;obtain⟨E,F⟩:=c;obtain⟨I,B,C⟩:=p;cases t:xG a (u,w) q (y,z) (B,C) with
 |false=>
  exact(aeq g u w y z I B C E F q f t).mono fun l s n=>⟨n.1,⟨a,by simp[AM,t],g.af n.2,D⟩,aP.cQ n.2⟩
 |true=>
  refine(aer g D L u w y z I B C E F q M t N).mono fun l s n=>⟨n.1,?_,n.2.2⟩
  obtain⟨m,v,P,Q,R,S,U⟩:=n.2.1;exact⟨m,by unfold AM;rw[if_pos t];exact⟨v,P,Q,R⟩,S,U⟩
def hZ:cN:=([((0,0),⟨false,none,[],(0,0)⟩)],[])
theorem Vu(w:World):
  O 161 #[] w fun e i=>(∃d b c,e=.returned (.pointer (some ⟨d,0,none⟩))/\cu i d b c hZ.1 hZ.2/\w.heap.size<=d/\w.heap.size<=b/\w.heap.size<=c/\b≠c)/\Below w.heap.size w i:=by
 have x:=EX;have t:=aa ((aoQ w.heap.size w).alloc (aoP _) (.map #[] 0));obtain⟨j,l,m,n⟩:=xc xd (isMap.fresh cX pn w) underlying171 (0,0) ⟨false,none,[],(0,0)⟩;simp only[cX,pn]at m;have f:=aa n;clear n;have g:=aa (show Below w.heap.size w (putObj (w.alloc (.map #[] 0)) w.heap.size (.map j l)) from t.o.trans (aP.under (aP.put (S:=fun k=>k=w.heap.size) _ rfl) (fun k q=>by omega) (by simp)));obtain⟨a,r⟩:∃a,a=putObj (w.alloc (.map #[] 0)) w.heap.size (.map j l):=⟨_,rfl⟩;rw[<-r]at m f g;clear r;have y:=f.o.lt;have u:=g.o.size;go_enter func161,ntmps161;go_wp2;go_ret
 have v:=(aoQ a.heap.size a).alloc (aoP _) (.map #[] 0);have s:=v.alloc (by simp) (.cells #[.map (some w.heap.size),.map (some a.heap.size)] 174);refine⟨⟨a.heap.size+1,w.heap.size,a.heap.size,rfl,⟨?_,⟨_,_,f.o.af s⟩,⟨#[],0,?_⟩,?_,fun p h=>by cases h⟩,by omega,by omega,by omega,by omega⟩,g.o.trans (s.mono u)⟩
 ·exact(by simp :(a.alloc (.map #[] 0)).heap.size=a.heap.size+1)▸bL (a.alloc (.map #[] 0)) _
 ·exact(isMap.fresh cX oI a).af ((aoQ _ _).alloc (aoP _) _)
 ·intro p h
  have :p=((0,0),⟨false,none,[],(0,0)⟩):=by simpa[hZ,cv]using h
  subst this;exact⟨.inl ⟨rfl,rfl⟩,fun k q=>by cases q⟩
abbrev kS:=Bool⊕(PId×PId)⊕(PId×ByteArray×PId×dR×List PId)⊕(PId×ByteArray×PId×List PId)
structure nP where
 id:PId
 nth:Int
 chg:kS
def l0 (D:cN) (o:nP) (a:cN):Prop:=
 match o.chg with
 |.inl l=>a=(cv o.id ⟨l,none,[],(0,0)⟩ D.1,D.2)
 |.inr (.inl (x,b))=>a=mj D x b o.id
 |.inr (.inr (.inl (c,key,x,e,d)))=>AM D c key x e d o.id a
 |.inr (.inr (.inr (c,key,x,d)))=>AL D c key x d a
def mN:cN->List nP->cN->Prop
 |D,[],a=>a=D
 |D,o::l,a=>∃b,l0 D o b/\mN b l a
theorem mN.nil:mN a [] a:=rfl
theorem mN.snoc{l:List nP}{o:nP}:∀{D b:cN},mN D l b->l0 b o a->mN D (l++[o]) a:=by
 induction l with
 |nil=>
  intro D b h c;have d:b=D:=h;subst d;exact⟨a,c,rfl⟩
 |cons x l ih=>
  rintro D b ⟨D0,e,f⟩ c;exact⟨D0,e,ih f c⟩
theorem CS {κ ν:Type} [DecidableEq κ] {x:κ} {v:ν}:∀{m:List (κ×ν)},(m.map (·.1)).Nodup->((cv x v m).map (·.1)).Nodup
 |[],_=>by simp[cv]
 |p::m,h=>by
  simp only[apb,apg]at h;unfold cv;by_cases a:x=p.1
  ·rw[if_pos a]
   subst a;simpa using h
  ·rw[if_neg a]
   simp only[apb,apg];refine⟨fun d=> ?_,CS h.2⟩;obtain⟨q,b,c⟩:=aoX.1 d;rcases og b with b|rfl
   ·exact h.1 (c▸aoX.2 ⟨q,b,rfl⟩)
   ·exact a c
theorem fG.CH(h:fG a){x:PId}{o:eI}(c:(o.ks.map (·.1)).Nodup)(d:∀k∈o.ks,(k.2.aB.map (·.1)).Nodup):fG (cv x o a.1,a.2):=by
 refine⟨CS h.o,h.e,fun p b=> ?_,fun p b=> ?_,h.mL⟩
 ·rcases og b with b|rfl
  ·exact h.ks p b
  ·exact c
 ·rcases og b with b|rfl
  ·exact h.fE p b
  ·exact d
theorem fG.yT(h:fG a){x:PId}{e:dS}(c:(e.aB.map (·.1)).Nodup):fG (a.1,cv x e a.2):=by
 refine⟨h.o,CS h.e,h.ks,h.fE,fun p b=> ?_⟩;rcases og b with b|rfl
 ·exact h.mL p b
 ·exact c
theorem fG.lay(h:fG a)(x b i:PId):fG (mj a x b i):=by
 unfold mj;split
 ·exact h
 ·rename_i c d
  split
  ·exact h
  ·split
   ·exact(h.yT (e:=⟨x,c.first,none,[]⟩) (x:=i) (by simp)).CH (o:={c with first :=i}) (h.ks _ (fQ d)) (h.fE _ (fQ d))
   ·split
    ·exact h
    ·rename_i e f
     split
     ·exact(h.yT (e:=⟨x,e.next,none,[]⟩) (x:=i) (by simp)).yT (e:={e with next :=i}) (h.mL _ (fQ f))
     ·exact h
theorem fG.Vv{o x c v}(h:fG a){aB:List (PId×dR)}(d:(aB.map (·.1)).Nodup)(j:AK a o c x v aB l):fG l:=by
 rcases j with⟨_,m,q,rfl⟩|⟨_,n,g,p,f,i,rfl⟩
 ·exact h.yT (e:={m with v:=v,aB:=aB}) d
 ·refine h.CH (o:={n with fE:=some g,ks:=cv c ⟨v,aB⟩ p}) (CS ((i.map (·.1)).nodup_iff.2 (h.ks _ (fQ f)))) fun k b=> ?_
  rcases og b with b|rfl
  ·exact h.fE _ (fQ f) k (i.mem_iff.1 b)
  ·exact d
theorem Vw{a m:List (PId×dR)}(b:(a.map (·.1)).Nodup)(h:m.Perm (qR i a)):(m.map (·.1)).Nodup:=(h.map (·.1)).nodup_iff.2 ((List.filter_sublist.map _).nodup b)
theorem fG.step{o}(h:fG a)(d:l0 a o l):fG l:=by
 obtain⟨id,n,chg⟩:=o;rcases chg with c|⟨x,b⟩|⟨e,key,x,p,i⟩|⟨e,key,x,i⟩
 ·simp only[l0]at d
  subst d;exact h.CH (o:=⟨c,none,[],(0,0)⟩) (by simp) (fun k j=>by cases j)
 ·simp only[l0]at d
  subst d;exact h.lay x b id
 ·simp only[l0,AM]at d
  split at d
  ·obtain⟨v,m,f,g⟩:=d
   exact h.Vv (CS (Vw (h.at e key x) f)) g
  ·subst d;exact h
 ·simp only[l0,AL]at d
  split at d
  ·obtain⟨v,m,f,g⟩:=d
   exact h.Vv (Vw (h.at e key x) f) g
  ·subst d;exact h
theorem fG.mo{D l}(h:fG D)(b:mN D l a):fG a:=by
 induction l generalizing D with
 |nil=>
  have c:a=D:=b;exact c▸h
 |cons x l ih=>
  obtain⟨f,d,e⟩:=b;exact ih (h.step d) e
theorem fG.root:fG hZ:=by
 refine⟨by simp[hZ],by simp[hZ],fun p a=> ?_,fun p a=> ?_,fun p a=>by cases a⟩
 ·simp[hZ]at a
  subst a;simp
 ·simp[hZ]at a
  subst a;exact fun k b=>by cases b
def rL (w:World) (c:Value):kS->Prop
 |.inl l=>c=.iface 197 (.agg #[.bool l])
 |.inr (.inl (x,b))=>c=.iface 179 (.agg #[A x.1,A x.2,A b.1,A b.2])
 |.inr (.inr (.inl (o,a,x,d,e)))=>∃s,c=.iface 182 (.agg #[A o.1,A o.2,.string a,A x.1,A x.2,A d.1,A d.2.1,A d.2.2,s])/\er w s e
 |.inr (.inr (.inr (o,a,x,e)))=>∃s,c=.iface 184 (.agg #[A o.1,A o.2,.string a,A x.1,A x.2,s])/\er w s e
def KY (w:World) (g i:Nat) (o:nP):Prop:=
 w.cell? (K g i)=some (A o.id.1)/\w.cell? (K g (i+1))=some (A o.id.2)/\w.cell? (K g (i+2))=some (A o.nth)/\∃c,w.cell? (K g (i+3))=some c/\rL w c o.chg
theorem aP.cell{w}(h:aP j w d){g:Nat}{v:Value}(c:¬j g)(a:w.cell? (K g b)=some v):d.cell? (K g b)=some v:=by
 have e:=ao4 w _ a;unfold World.cell? at a⊢;simp only at a⊢;rw[h.other g e c];exact a
theorem er.EV{S b}(h:er d f i)(j:aP S d b)(k:∀g c t a,d.heap[g]?=some (.cells c t a)->¬S g):er b f i:=
 b4 h (fun g l=>by
  obtain⟨c,e⟩:=bt h l;exact j.other g (aM e) (k g _ _ _ e))
theorem rL.EV{S w d c q}(h:rL w c q)(i:aP S w d)(j:∀g c t f,w.heap[g]?=some (.cells c t f)->¬S g):rL d c q:=by
 rcases q with l|⟨x,b⟩|⟨o,k,x,n,m⟩|⟨o,k,x,m⟩
 ·exact h
 ·exact h
 ·obtain⟨s,e,a⟩:=h;exact⟨s,e,a.EV i j⟩
 ·obtain⟨s,e,a⟩:=h;exact⟨s,e,a.EV i j⟩
theorem aet{w R}(j:cu w h b e a.1 a.2)(ae:fR b e R a.1 a.2)(hn:fG a)(qc:∀k,w.heap.size<=k->R k)(g off cap:Nat)(l:List nP)(hl:l.length<=cap)(hc:l.length<=10000)(hof:off<=100000)(CT:∀k (N:k<l.length),KY w g (off+k*4) l[k]):
  O 134 #[Z h,.slice (some (K g off)) l.length cap] w fun d z=>(∃r,d=.returned r)/\
   (∃q,mN a l q/\cu z h b e q.1 q.2/\fR b e R q.1 q.2)/\aP (fun k=>k=b\/k=e) w z:=by
 have p6:=aa (show ∀g c t f,w.heap[g]?=some (.cells c t f)->¬(g=b\/g=e) from fun g c t f Y ad=>by
  obtain⟨es,aR,nm⟩:=j.ae;obtain⟨jt,ju,kR⟩:=j.he;rcases ad with rfl|rfl
  ·rw[nm.blk]at Y;cases Y
  ·rw[kR.blk]at Y;cases Y)
 have GH:=aa CT;clear CT;have aC:=aa j;clear j;have cL:=aa ae;clear ae;have pC:=aa hn;clear hn;have oM:=aa qc;clear qc;go_enter func134,ntmps134;go_wp2;go_loopw [8] (fun i wr=>∃k:Nat,k<=l.length/\i=A k/\(∃q,mN a (l.take k) q/\cu wr h b e q.1 q.2/\fR b e R q.1 q.2)/\aP (fun k=>k=b\/k=e) w wr) (fun i _=>l.length-(intOf i).toNat)
 case atStart=>exact⟨0,aoR _,rfl,⟨a,.nil,aC.o,cL.o⟩,aP.cQ (aoQ _ _)⟩
 case round=>
  obtain⟨k,N,rfl,⟨q,kD,ao,bm⟩,xE⟩:=hrel;have P:=aa kD;clear kD;have S:=aa ao;clear ao;have U:=aa bm;clear bm;have C:=aa xE;clear xE;by_cases W:k<l.length
  ·obtain⟨bc,a6,bd,c,bV,mK⟩:=GH.o k W
   have KZ:¬(g=b\/g=e):=by
    have B:=bc;unfold World.cell? at B;simp only at B;cases c9:w.heap[g]? with
    |none=>rw[c9]at B;cases B
    |some o=>
     cases o with
     |cells cs t f=>exact p6.o g _ _ _ c9
     |_=>rw[c9]at B;simp at B
   have L:=aa (mK.EV C.o p6.o);clear mK;replace bc:=C.o.cell KZ bc;replace a6:=C.o.cell KZ a6;replace bd:=C.o.cell KZ bd;replace bV:=C.o.cell KZ bV;rcases M:l[k].chg with aO|⟨x,m⟩|⟨o,X,x,val,gs⟩|⟨o,X,x,gs⟩
   ·rw[M]at L
    have v:=L.o;simp only[rL]at v;subst v;have y:=aa (show J wr (wr.alloc (.cells #[A l[k].id.1,A l[k].id.2,A l[k].nth,.iface 197 (.agg #[.bool aO])] 210)) from(aoQ _ wr).alloc (aoP _) _);have Q:=aa ((adW (S.o.af y.o) U.o aO l[k].id.1 l[k].id.2).mono (fun d z p=>(show(∃r,d=.returned r)/\(∃n,l0 q l[k] n/\cu z h b e n.1 n.2/\fR b e R n.1 n.2)/\aP (fun k=>k=b\/k=e) _ z from⟨p.1,⟨(cv l[k].id ⟨aO,none,[],(0,0)⟩ q.1,q.2),by unfold l0;rw[M],p.2.1,p.2.2.1⟩,p.2.2.2.mono fun k N=>.inl N⟩)));go_wp2_with fail
    refine Q.o.mono ?_;rintro d w2 ⟨⟨r,rfl⟩,B,D⟩;obtain⟨n,E,F,I⟩:=B;have u:=aa (And.intro E (And.intro F (And.intro I (C.o.trans ((aP.cQ y.o).trans D)))));clear E F I D;go_wp2;go_roundw
    case rel=>exact⟨k+1,by omega,by go_num,⟨n,by rw[aph W];exact .snoc P.o u.o.1,u.o.2.1,u.o.2.2.1⟩,u.o.2.2.2⟩
    case measure=>simp[intOf];omega
   ·rw[M]at L
    have v:=L.o;simp only[rL]at v;subst v;have y:=aa (show J wr (wr.alloc (.cells #[A l[k].id.1,A l[k].id.2,A l[k].nth,.iface 179 (.agg #[A x.1,A x.2,A m.1,A m.2])] 210)) from(aoQ _ wr).alloc (aoP _) _);have Q:=aa ((ad4 (S.o.af y.o) U.o x m l[k].id).mono (fun d z p=>(show(∃r,d=.returned r)/\(∃n,l0 q l[k] n/\cu z h b e n.1 n.2/\fR b e R n.1 n.2)/\aP (fun k=>k=b\/k=e) _ z from⟨p.1,⟨mj q x m l[k].id,by unfold l0;rw[M],p.2.1,p.2.2.1⟩,p.2.2.2⟩)));go_wp2_with fail
    refine Q.o.mono ?_;rintro d w2 ⟨⟨r,rfl⟩,B,D⟩;obtain⟨n,E,F,I⟩:=B;have u:=aa (And.intro E (And.intro F (And.intro I (C.o.trans ((aP.cQ y.o).trans D)))));clear E F I D;go_wp2;go_roundw
    case rel=>exact⟨k+1,by omega,by go_num,⟨n,by rw[aph W];exact .snoc P.o u.o.1,u.o.2.1,u.o.2.2.1⟩,u.o.2.2.2⟩
    case measure=>simp[intOf];omega
   ·rw[M]at L
    have v:=L.o;simp only[rL]at v;obtain⟨s,v,G8⟩:=v;subst v;have y:=aa (show J wr (wr.alloc (.cells #[A l[k].id.1,A l[k].id.2,A l[k].nth,.iface 182 (.agg #[A o.1,A o.2,.string X,A x.1,A x.2,A val.1,A val.2.1,A val.2.2,s])] 210)) from(aoQ _ wr).alloc (aoP _) _);have Q:=aa ((aes (S.o.af y.o) U.o (pC.o.mo P.o) o x l[k].id val X (G8.af y.o) (fun k N=>oM.o k (aoS C.o.size (aoS y.o.size N)))).mono (fun d z p=>(show(∃r,d=.returned r)/\(∃n,l0 q l[k] n/\cu z h b e n.1 n.2/\fR b e R n.1 n.2)/\aP (fun k=>k=b\/k=e) _ z from⟨p.1,⟨p.2.1.choose,by unfold l0;rw[M];exact p.2.1.choose_spec.1,p.2.1.choose_spec.2.1,p.2.1.choose_spec.2.2⟩,p.2.2⟩)));go_wp2_with fail
    refine Q.o.mono ?_;rintro d w2 ⟨⟨r,rfl⟩,B,D⟩;obtain⟨n,E,F,I⟩:=B;have u:=aa (And.intro E (And.intro F (And.intro I (C.o.trans ((aP.cQ y.o).trans D)))));clear E F I D;go_wp2;go_roundw
    case rel=>exact⟨k+1,by omega,by go_num,⟨n,by rw[aph W];exact .snoc P.o u.o.1,u.o.2.1,u.o.2.2.1⟩,u.o.2.2.2⟩
    case measure=>simp[intOf];omega
   ·rw[M]at L
    have v:=L.o;simp only[rL]at v;obtain⟨s,v,G8⟩:=v;subst v;have y:=aa (show J wr (wr.alloc (.cells #[A l[k].id.1,A l[k].id.2,A l[k].nth,.iface 184 (.agg #[A o.1,A o.2,.string X,A x.1,A x.2,s])] 210)) from(aoQ _ wr).alloc (aoP _) _);have Q:=aa ((aep (S.o.af y.o) U.o (pC.o.mo P.o) o x l[k].id X (G8.af y.o) (fun k N=>oM.o k (aoS C.o.size (aoS y.o.size N)))).mono (fun d z p=>(show(∃r,d=.returned r)/\(∃n,l0 q l[k] n/\cu z h b e n.1 n.2/\fR b e R n.1 n.2)/\aP (fun k=>k=b\/k=e) _ z from⟨p.1,⟨p.2.1.choose,by unfold l0;rw[M];exact p.2.1.choose_spec.1,p.2.1.choose_spec.2.1,p.2.1.choose_spec.2.2⟩,p.2.2⟩)));go_wp2_with fail
    refine Q.o.mono ?_;rintro d w2 ⟨⟨r,rfl⟩,B,D⟩;obtain⟨n,E,F,I⟩:=B;have u:=aa (And.intro E (And.intro F (And.intro I (C.o.trans ((aP.cQ y.o).trans D)))));clear E F I D;go_wp2;go_roundw
    case rel=>exact⟨k+1,by omega,by go_num,⟨n,by rw[aph W];exact .snoc P.o u.o.1,u.o.2.1,u.o.2.2.1⟩,u.o.2.2.2⟩
    case measure=>simp[intOf];omega
  ·go_wp2
   go_end0
   refine⟨⟨_,rfl⟩,⟨q,?_,S.o,U.o⟩,C.o⟩;have :=P.o;rwa [apc (by omega)]at this
theorem aeu(b:Nat)(a:Array MapEntry)(c:Nat)(w:World)(d:w.heap[b]?=some (.map a c)):
  O 235 #[.map (some b)] w fun e f=>e=.returned (.map (some w.heap.size))/\f=w.alloc (.map a c):=by
 have g:=fun w=>run_eql_map_nil_sl (P:=prog) w 171 _ _ (some b) underlying171
 go_enter func235,ntmps235;go_wp2;rw[run_callFunc_extern func245 (by kernel_rfl) (by kernel_rfl) (by kernel_rfl) (e:=Extern.MapsClone.clone) (by kernel_rfl),run_maps_clone_sl w 171 d];simp only[Result.andThen];rw[Oper.upon_value];go_wp2;rw[run_typeAssert_map_sl _ 171 _ _ _ _ underlying171];simp only[Result.andThen];rw[Oper.upon_value];go_wp2;go_ret
 exact⟨rfl,rfl⟩
theorem aev(b:Nat)(a:Array MapEntry)(c:Nat)(w:World)(d:w.heap[b]?=some (.map a c)):
  O 236 #[.map (some b)] w fun e f=>e=.returned (.map (some w.heap.size))/\f=w.alloc (.map a c):=by
 have g:=fun w=>run_eql_map_nil_sl (P:=prog) w 172 _ _ (some b) underlying172
 go_enter func236,ntmps236;go_wp2;rw[run_callFunc_extern func245 (by kernel_rfl) (by kernel_rfl) (by kernel_rfl) (e:=Extern.MapsClone.clone) (by kernel_rfl),run_maps_clone_sl w 172 d];simp only[Result.andThen];rw[Oper.upon_value];go_wp2;rw[run_typeAssert_map_sl _ 172 _ _ _ _ underlying172];simp only[Result.andThen];rw[Oper.upon_value];go_wp2;go_ret
 exact⟨rfl,rfl⟩
theorem isMap.K0 {κ ν:Type} {c:κ->Value} {d:ν->Value} {w:World} {m:List (κ×ν)} {a:Array MapEntry} (h:isMap c d w e m a b):isMap c d (w.alloc (.map a b)) w.heap.size m a b:=⟨heap_alloc_new w _,h.mD,h.nodup,h.old⟩
theorem OK{w y l m}(h:cu w b e y l m):
  O 213 #[Z b] w fun a z=>(∃n p q,a=.returned (Z n)/\cu z n p q l m/\w.heap.size<=n/\w.heap.size<=p/\w.heap.size<=q/\p≠q)/\J w z:=by
 have B:=aa h;obtain⟨r,s,C⟩:=h.ae;obtain⟨t,u,D⟩:=h.he;have E:=h.bc;have F:=h.a6;have S:=h.lt;have I:=aa C;clear C;have L:=aa D;clear D;have f:=aa (show J w w.drew from(aoQ _ w).drew);have N:=aa (aeu e r s w.drew (I.o.af f.o).blk);clear h;go_enter func213,ntmps213;go_wp2_with fail
 go_region_with (first
  |(go_at_call 235;refine N.o.mono ?_;rintro a c ⟨rfl,g⟩;have i:J w c:=(by rw[g];exact f.o.alloc f.o.size _);have U:w.heap.size<c.heap.size:=(by rw[g];simp);have P:=aa (show isMap cX pn c w.heap.size l r s from g▸(I.o.af f.o).K0);clear g;replace E:=af i E;replace F:=af i F;have j:=aa i;clear i;have Q:=aa (aev y t u c (L.o.af j.o).blk))
  |(go_at_call 236;refine Q.o.mono ?_;rintro a d ⟨rfl,k⟩;have M:=aa (show J c d by rw[k];exact(aoQ _ c).alloc (aoP _) _);have W:c.heap.size<d.heap.size:=(by rw[k];simp);have R:=aa (show isMap cX oI d c.heap.size m t u from k▸(L.o.af j.o).K0);clear k))
 all_goals(try go_wp2)
 all_goals go_ret
 all_goals
  have v:=(aoQ d.heap.size d).alloc (aoP _) (.cells #[.map (some w.heap.size),.map (some c.heap.size)] 174);have x:J w (d.alloc (.cells #[.map (some w.heap.size),.map (some c.heap.size)] 174)):=(j.o.trans (M.o.mono j.o.size)).trans (v.mono (by omega));exact⟨⟨d.heap.size,w.heap.size,c.heap.size,rfl,⟨bL d _,⟨r,s,(P.o.af M.o).af v⟩,⟨t,u,R.o.af v⟩,(B.o.af x).hk,(B.o.af x).aH⟩,by omega,by omega,by omega,by omega⟩,x⟩
theorem aew{sp su:Int}(h:d.heap[b]?=some (.cells #[A sp,A su,f,k,Z e] 204 (0,0))):
  O 85 #[Z b] d fun a g=>a=.returned (Z e)/\J d g:=by
 have dC:d.cell? (K b 4)=some (Z e):=by simp[World.cell?,h]
 have c:=aa (aoQ d.heap.size d);go_enter func85,ntmps85;go_wp2
 try go_region
 all_goals(try go_wp2)
 all_goals go_ret
 all_goals first |exact⟨rfl,c.o⟩|exact⟨rfl,c.o.drew⟩
def uU (a b:Int):Int:=if a<b then -1 else if b<a then 1 else 0
def G9 (a b:Int):Int:=if a≠0 then a else b
def nQ (a b:PId):Int:=G9 (uU a.1 b.1) (uU a.2 b.2)
theorem OL(a b:Int)(w:World):O 166 #[A a,A b] w fun e f=>e=.returned (A (uU a b))/\f=w:=by
 unfold uU;by_cases c:a<b
 ·go_enter func166,ntmps166
  go_wp2;go_ret
  simp[c]
 ·by_cases d:b<a
  ·go_enter func166,ntmps166
   go_wp2;go_ret
   simp[c,d]
  ·go_enter func166,ntmps166
   go_wp2;go_ret
   simp[c,d]
theorem OM{g:Nat}{a b:Int}(k:d.cell? (H g)=some (A a))(l:d.cell? (K g 1)=some (A b)):
  O 165 #[.slice (some (H g)) 2 2] d fun e h=>e=.returned (A (G9 a b))/\h=d:=by
 unfold G9;go_enter func165,ntmps165;go_wp2;go_loopw [8] (fun i wr=>wr=d/\(i=A 0\/(i=A 1/\a=0)\/(i=A 2/\a=0/\b=0))) (fun i _=>2-(intOf i).toNat)
 case atStart=>exact⟨rfl,.inl rfl⟩
 case round=>
  obtain⟨rfl,rfl|⟨rfl,f⟩|⟨rfl,f,j⟩⟩:=hrel
  ·by_cases c:a=0
   ·subst c
    go_wp2;go_roundw
    case rel=>simp
    case measure=>simp[intOf]
   ·go_wp2
    go_ret
    simp[c]
  ·subst f
   by_cases c:b=0
   ·subst c
    go_wp2;go_roundw
    case rel=>simp
    case measure=>simp[intOf]
   ·go_wp2
    go_ret
    simp
  ·subst f
   subst j;go_wp2;go_ret
   simp
end
section
open Go.RowKit Tryz
attribute [local go_sem ↓] Go.wp_at_zero Go.wp_at_succ
variable {b:World}
theorem E1(w:World)(a b:Obj)(x y:Value)(t:TypeId):(((w.alloc a).alloc b).alloc (.cells #[x,y] t)).drew.cell? (H (w.heap.size+2))=some x/\(((w.alloc a).alloc b).alloc (.cells #[x,y] t)).drew.cell? (K (w.heap.size+2) 1)=some y:=by
 have h:=bL ((w.alloc a).alloc b) (.cells #[x,y] t);have c:((w.alloc a).alloc b).heap.size=w.heap.size+2:=by simp
 rw[c]at h;exact bh (w:=(((w.alloc a).alloc b).alloc (.cells #[x,y] t)).drew) h
theorem aex(c d f i:Int)(w:World):
  O 139 #[.agg #[A c,A d],.agg #[A f,A i]] w fun e j=>e=.returned (A (nQ (c,d) (f,i)))/\J w j:=by
 go_enter func139,ntmps139;go_wp2_with fail
 go_region_held3 (fun W=>W.cell? (V w 0)=some (A c)/\W.cell? (V w 1)=some (A d)/\W.cell? (H (w.heap.size+1))=some (A f)/\W.cell? (K (w.heap.size+1) 1)=some (A i)) (go_keep)
  (first
   |(go_at_call 166;refine(OL _ _ _).mono ?_;rintro e j ⟨rfl,rfl⟩)
   |(go_at_call 165;refine(OM (g:=w.heap.size+2) (a:=uU c f) (b:=uU d i) ?_ ?_).mono ?_;(exact(E1 _ _ _ _ _ _).1);(exact(E1 _ _ _ _ _ _).2);rintro e j ⟨rfl,rfl⟩))
 all_goals go_wp2
 all_goals go_ret
 all_goals exact⟨rfl,by go_grown⟩
structure av where
 op:nP
 t:TypeId
 v:Value
variable {a:List av}
def av.c (o:av):Value:=.iface o.t o.v
def dn (o:av):List Value:=[A o.op.id.1,A o.op.id.2,A o.op.nth,.iface o.t o.v]
def fH (B:Nat) (w:World) (v:Value) (l:List av):Prop:=w.ownsRow B 210 4 v l.length (l.flatMap dn)
theorem Vy {α:Type} {f:α->List Value} (a:∀x,(f x).length=4):∀(l:List α) (k:Nat) (b:k<l.length) (j:Nat),j<4->(l.flatMap f)[k*4+j]?=(f l[k])[j]?
 |x::l,0,_,j,c=>by
  rw[ape,aqU (by rw[a];omega)];simp
 |x::l,k+1,b,j,c=>by
  rw[ape,aqV (by rw[a];omega),a,show(k+1)*4+j-4=k*4+j by omega];exact Vy a l k (by simpa using b) j c
theorem fH.cells{B w}{g cap:Nat}(h:fH B w (.slice (some (H g)) a.length cap) a)(k:Nat)(e:k<a.length):
  w.cell? (K g (k*4))=some (A a[k].op.id.1)/\w.cell? (K g (k*4+1))=some (A a[k].op.id.2)/\w.cell? (K g (k*4+2))=some (A a[k].op.nth)/\w.cell? (K g (k*4+3))=some (.iface a[k].t a[k].v):=by
 have b:=fun j (d:j<4)=>aqE h (k*4+j) (by omega)
 have c:=fun j (d:j<4)=>Vy (f:=dn) (fun _=>rfl) a k e j d
 refine⟨?_,?_,?_,?_⟩
 ·have :=(b 0 (by omega)).trans (c 0 (by omega));simpa[dn]using this
 ·have :=(b 1 (by omega)).trans (c 1 (by omega));simpa[dn]using this
 ·have :=(b 2 (by omega)).trans (c 2 (by omega));simpa[dn]using this
 ·have :=(b 3 (by omega)).trans (c 3 (by omega));simpa[dn]using this
theorem xJ(w:World)(a b c d:Value)(t:TypeId):(w.alloc (.cells #[a,b,c,d] t)).cell? (H w.heap.size)=some a/\(w.alloc (.cells #[a,b,c,d] t)).cell? (K w.heap.size 1)=some b/\(w.alloc (.cells #[a,b,c,d] t)).cell? (K w.heap.size 2)=some c/\(w.alloc (.cells #[a,b,c,d] t)).cell? (K w.heap.size 3)=some d:=EY (bL w _)
theorem mq{w:World}(h:Below w.drew.heap.size w.drew b):Hq (J w b):=⟨h.os,h.tape,h.output,h.size,h.block⟩
theorem OO(a b f c d g:Int)(h i:TypeId)(j k:Value)(w:World):
  O 211 #[.agg #[A a,A b,A f,.iface h j],.agg #[A c,A d,A g,.iface i k]] w fun e n=>e=.returned (A (nQ (a,b) (c,d)))/\J w n:=by
 have l:=aa (((aoQ w.heap.size w).alloc (aoP _) (.cells #[A a,A b,A f,.iface h j] 210)).alloc (by simp) (.cells #[A c,A d,A g,.iface i k] 210));go_enter func211,ntmps211;go_wp2_with fail
 refine(aex a b c d _).mono ?_;rintro e q ⟨rfl,m⟩;have p:=l.o.trans (m.mono l.o.size);clear m;go_wp2;go_ret
 exact⟨rfl,p⟩
theorem zd {α:Type} (f:α->List Value) (size bytes:Nat) (t e:TypeId) (z:Value) (q:(prog.info? e).map (fun i=>(i.zero,i.size,i.bytes))=some (some z,size,bytes))
  (r:prog.underlying t=some (.slice e)) (w:z.cells.size=size) (n:0<size) (C:∀x,(f x).length=size)
  {p:Array Oper} {rest:List Oper} {o:Oper} {a:Act} {Q:Exit->Act->World->Prop} (D:o.guard=none) (s x:Operand)
  (E:o.op=.call {callee:=.builtin .append,args:= #[s,x],argTypes:= #[t,t]}) (B:Nat) (v:Value) (l:List α) (F:a.eval s=v)
  (I:b.ownsRow B e size v l.length (l.flatMap f)) (g c:Nat) (y:α) (L:a.eval x=.slice (some (H g)) 1 c)
  (M:∀j u,(f y)[j]?=some u->b.cell? (K g j)=some u) (N:∀u∈f y,u.oneCell'=true) (R:(l.length+1)*bytes<=140737488355328) (tC:l.length<maxLen) (S:B<=b.heap.size)
  (h:∀d m,m.ownsRow B e size d (l.length+1) ((l++[y]).flatMap f)->b.grownBy m v.ownBlock->iT b v d->wpList prog p Q rest (a.put o.dst d) m):wpList prog p Q (o::rest) a b:=by
 obtain⟨i,U,W,X,Y⟩:=info_parts q;refine wpList_append_own_at (P:=prog) b D s x t E B e i z size bytes r U W X Y w n v l.length (l.flatMap f) F I (H g) 1 c (f y) L (by rw[C];simp) ?_ N (by omega) R S ?_
 ·intro j u hu
  have :((H g):Addr).add j=(K g j):=by unfold Addr.add;split <;>simp_all
  rw[this];exact M j u hu
 ·intro d m h2 ak _ bW
  exact h d m (by simpa using h2) ak (bW.imp id fun eR k n=>by rw[eR]at n;cases n;exact aoP _)
theorem OP{w:World}{g:Nat}{x:av}(b:w.cell? (H g)=some (A x.op.id.1))(c:w.cell? (K g 1)=some (A x.op.id.2))(d:w.cell? (K g 2)=some (A x.op.nth))(e:w.cell? (K g 3)=some (.iface x.t x.v)):
  ∀j u,(dn x)[j]?=some u->w.cell? (K g j)=some u:=by
 intro j u a
 match j with
 |0=>simp[dn]at a;rw[<-a];exact b
 |1=>simp[dn]at a;rw[<-a];exact c
 |2=>simp[dn]at a;rw[<-a];exact d
 |3=>simp[dn]at a;rw[<-a];exact e
 |j+4=>simp[dn]at a
theorem AN(x:av):∀u∈dn x,u.oneCell'=true:=by
 intro u a;simp[dn]at a;rcases a with rfl|rfl|rfl|rfl<;>rfl
theorem aey{v}(h:fH 0 b v a)(x:av)(g:Nat)(u:b.cell? (H g)=some (A x.op.id.1))(w:b.cell? (K g 1)=some (A x.op.id.2))(y:b.cell? (K g 2)=some (A x.op.nth))(z:b.cell? (K g 3)=some (.iface x.t x.v))(I:a.length<=100000):
  O 212 #[v,A a.length,.slice (some (H g)) 1 1] b fun e p=>∃f,e=.returned f/\fH 0 p f (a++[x])/\b.grownBy p v.ownBlock/\iT b v f:=by
 have q:=aa (OP (x:=x) u w y z);obtain⟨d,c,rfl,B,C,r⟩:=bp h;unfold maxLen at C;have s:=aa h;clear h;have D:=aa r;clear r;clear D;rcases Nat.eq_or_lt_of_le B with E|L
 ·subst E
  go_enter func212,ntmps212;go_wp2_with (first
   |(at_builtin;refine zd dn 4 40 202 210 (.agg #[A 0,A 0,A 0,.nilIface]) (by kernel_rfl) underlying202 rfl (by omega) (fun _=>rfl) rfl (.tmp 23) (.tmp 24) rfl 0 (.slice d a.length a.length) a rfl s.o g 1 x rfl q.o (AN x) (by omega) (by unfold maxLen;omega) (aoR _) ?_;intro f F i j k;have l:=aa i;have m:=aa j;have n:=aa k;clear i j k)
   |fail)
  all_goals(try go_ret)
  all_goals exact⟨_,rfl,by simpa[fH]using l.o,m.o,n.o⟩
 ·go_enter func212,ntmps212
  go_wp2_with (first
   |(at_builtin;refine zd dn 4 40 202 210 (.agg #[A 0,A 0,A 0,.nilIface]) (by kernel_rfl) underlying202 rfl (by omega) (fun _=>rfl) rfl (.tmp 23) (.tmp 24) rfl 0 (.slice d a.length c) a rfl s.o g 1 x rfl q.o (AN x) (by omega) (by unfold maxLen;omega) (aoR _) ?_;intro f F i j k;have l:=aa i;have m:=aa j;have n:=aa k;clear i j k)
   |fail)
  all_goals(try go_ret)
  all_goals exact⟨_,rfl,by simpa[fH]using l.o,m.o,n.o⟩
theorem aez{w v}(h:fH 0 w v a)(x:av)(q:Nat)(h5:q<=a.length)(M:∀i (hi:i<a.length),i<q->nQ a[i].op.id x.op.id<0)(N:∀i (hi:i<a.length),q<=i->0<nQ a[i].op.id x.op.id)(hl:a.length<=100000):
  O 210 #[v,.agg #[A x.op.id.1,A x.op.id.2,A x.op.nth,.iface x.t x.v],.func (.func 211) #[] #[]] w fun e w'=>e=.returned (.tuple #[A q,.bool false])/\J w w':=by
 obtain⟨d,c,rfl,jk,dh,P⟩:=bp h;unfold maxLen at dh;have Q:=aa h;clear h;have R:=aa P;clear P;have pt:=aa M;clear M;have S:=aa N;clear N;have a1:=aa ((aoQ w.heap.size w).alloc (aoP _) (.cells #[A x.op.id.1,A x.op.id.2,A x.op.nth,.iface x.t x.v] 210));go_enter func210,ntmps210;go_wp2_with fail
 go_loopw [9,10] (fun i j wr=>∃k b:Nat,k<=q/\q<=b/\b<=a.length/\i=A k/\j=A b/\Below (w.heap.size+1) (w.alloc (.cells #[A x.op.id.1,A x.op.id.2,A x.op.nth,.iface x.t x.v] 210)) wr) (fun i j _=>(intOf j).toNat-(intOf i).toNat)
 case atStart=>exact⟨0,a.length,aoR _,h5,aoP _,rfl,rfl,aoQ _ _⟩
 case round=>
  obtain⟨k,b,hk,Ek,fN,rfl,rfl,n⟩:=hrel;have l:=aa (a1.o.trans (n.mono (apn _)));have gw:=xJ w (A x.op.id.1) (A x.op.id.2) (A x.op.nth) (.iface x.t x.v) 210;have L:(w.alloc (.cells #[A x.op.id.1,A x.op.id.2,A x.op.nth,.iface x.t x.v] 210)).heap.size=w.heap.size+1:=by simp
  obtain⟨z,B,C,D⟩:=gw;rw[<-L]at n;replace z:=af n z;replace B:=af n B;replace C:=af n C;replace D:=af n D;rw[L]at n;clear L;have I:=aa n;clear n;by_cases eh:k<b
  ·obtain⟨g,rfl⟩:=R.o 0 (by omega)
   obtain⟨m,hm,E,E2⟩:∃m:Nat,((k:Int)+(b:Int))/2=(m:Int)/\m<b/\k<=m:=⟨(k+b)/2,by omega,by omega,by omega⟩;have am2:=E;replace E:m<a.length:=by omega
   obtain⟨r,s,u,y⟩:=fH.cells Q.o m E;replace r:=af l.o r;replace s:=af l.o s;replace u:=af l.o u;replace y:=af l.o y;have Em:(0:Int)<=(m:Int):=ao0 _;have mn:(m:Int)<(a.length:Int):=by omega
   by_cases CL:m<q
   ·have TP:=pt.o m E CL
    go_wp2_with fail
    go_region_held3 (fun W=>W.cell? (K g (m*4))=some (A a[m].op.id.1)/\W.cell? (K g (m*4+1))=some (A a[m].op.id.2)/\W.cell? (K g (m*4+2))=some (A a[m].op.nth)/\W.cell? (K g (m*4+3))=some (.iface a[m].t a[m].v)/\
      W.cell? (V w 0)=some (A x.op.id.1)/\W.cell? (V w 1)=some (A x.op.id.2)/\W.cell? (V w 2)=some (A x.op.nth)/\W.cell? (V w 3)=some (.iface x.t x.v)) (go_keep)
     (first
      |(go_at_call 211;refine(OO _ _ _ _ _ _ _ _ _ _ _).mono ?_;rintro e U ⟨rfl,p⟩;have f:=Hq.o (mq p);clear p;have X:=af f r;have Y:=af f s;have d2:=af f u;have d3:=af f y;have ct:=af f z;have aj:=af f B;have aw:=af f C;have cY:=af f D;have F:=aa f;clear f))
    go_wp2;go_roundw
    case rel=>exact⟨m+1,b,by omega,Ek,fN,by go_num,rfl,I.o.trans (F.o.mono (aoS (by simp) I.o.size))⟩
    case measure=>simp[intOf];omega
   ·have Nn:=S.o m E (by omega)
    have OQ:¬(nQ a[m].op.id x.op.id<0):=by omega
    have hnz:0<=nQ a[m].op.id x.op.id:=by omega
    have v8:decide (nQ a[m].op.id x.op.id<0)=false:=by simpa using hnz
    go_wp2_with fail
    go_region_held3 (fun W=>W.cell? (K g (m*4))=some (A a[m].op.id.1)/\W.cell? (K g (m*4+1))=some (A a[m].op.id.2)/\W.cell? (K g (m*4+2))=some (A a[m].op.nth)/\W.cell? (K g (m*4+3))=some (.iface a[m].t a[m].v)/\
      W.cell? (V w 0)=some (A x.op.id.1)/\W.cell? (V w 1)=some (A x.op.id.2)/\W.cell? (V w 2)=some (A x.op.nth)/\W.cell? (V w 3)=some (.iface x.t x.v)) (go_keep)
     (first
      |(go_at_call 211;refine(OO _ _ _ _ _ _ _ _ _ _ _).mono ?_;rintro e U ⟨rfl,p⟩;have f:=Hq.o (mq p);clear p;have X:=af f r;have Y:=af f s;have d2:=af f u;have d3:=af f y;have ct:=af f z;have aj:=af f B;have aw:=af f C;have cY:=af f D;have F:=aa f;clear f))
    go_wp2;go_roundw
    case rel=>exact⟨k,m,hk,by omega,by omega,rfl,rfl,I.o.trans (F.o.mono (aoS (by simp) I.o.size))⟩
    case measure=>simp[intOf];omega
  ·obtain rfl:k=q:=by omega
   obtain rfl:b=k:=by omega
   by_cases Hc:b<a.length
   ·obtain⟨g,rfl⟩:=R.o 0 (by omega)
    obtain⟨r,s,u,y⟩:=fH.cells Q.o b Hc;replace r:=af l.o r;replace s:=af l.o s;replace u:=af l.o u;replace y:=af l.o y;have Nn:=S.o b Hc (aoP _);have br:¬(nQ a[b].op.id x.op.id=0):=by omega
    have bb:(0:Int)<=(b:Int):=ao0 _;have p:(b:Int)<(a.length:Int):=by omega
    go_wp2_with fail
    go_region_held3 (fun W=>W.cell? (K g (b*4))=some (A a[b].op.id.1)/\W.cell? (K g (b*4+1))=some (A a[b].op.id.2)/\W.cell? (K g (b*4+2))=some (A a[b].op.nth)/\W.cell? (K g (b*4+3))=some (.iface a[b].t a[b].v)/\
      W.cell? (V w 0)=some (A x.op.id.1)/\W.cell? (V w 1)=some (A x.op.id.2)/\W.cell? (V w 2)=some (A x.op.nth)/\W.cell? (V w 3)=some (.iface x.t x.v)) (go_keep)
     (first
      |(go_at_call 211;refine(OO _ _ _ _ _ _ _ _ _ _ _).mono ?_;rintro e U ⟨rfl,p⟩;have f:=Hq.o (mq p);clear p;have X:=af f r;have Y:=af f s;have d2:=af f u;have d3:=af f y;have ct:=af f z;have aj:=af f B;have aw:=af f C;have cY:=af f D;have F:=aa f;clear f))
    go_wp2;go_ret2
    refine⟨?_,l.o.trans (F.o.mono l.o.size)⟩;have bJ:(nQ a[b].op.id x.op.id==0)=false:=by simpa using br
    rw[show(nQ (a[b].op.id.1,a[b].op.id.2) (x.op.id.1,x.op.id.2)==0)=false from bJ];rfl
   ·have hL:b=a.length:=by omega
    subst hL;go_wp2_with fail
    go_quiet (fail)
    go_wp2;go_ret2
    all_goals exact⟨rfl,below_drewN l.o _⟩
end
end Go.Proofs.YtnkpogjiiohapaaGreatDoor
