/- Our own text. -/
import Derived.Test.YtnkpogjiiohapaaGreatDoorA23
set_option linter.unusedSimpArgs false
set_option linter.unusedVariables false
set_option maxRecDepth 1000000
set_option maxHeartbeats 4000000
namespace Go.Proofs.YtnkpogjiiohapaaGreatDoor
section
variable {a b:Nat}{d:Nat->List av}{e:av}
def pP (M:Nat->List av) (c:Nat) (o:av):Nat->List av:=upd M c (M c++[o])
theorem nz(M:Nat->List av)(c:Nat)(o:av):pP M c o c=M c++[o]:=bN _ _ _
theorem rh(M:Nat->List av)(o:av)(h:a≠b):pP M b o a=M a:=ck _ _ h
theorem Yx{o:av}(h:e∈d a):e∈pP d b o a:=by
 by_cases c:a=b
 ·subst c;rw[nz];exact apR _ h
 ·rw[rh _ _ c];exact h
theorem Yy(M:Nat->List av)(c e:Nat)(o:av):(M e).length<=(pP M c o e).length:=by
 by_cases a:e=c
 ·subst a;rw[nz];simp
 ·rw[rh _ _ a];exact aoP _
theorem mV.add{y}{o:av}(h:mV a d y):mV a (pP d b o) y:=by
 obtain⟨e,c,f⟩:=h;exact⟨e,c,Yx f⟩
theorem Ij.add{N:Nat}{M:Nat->List av}{c:Nat}{o:av}:∀{m:iH},Ij N M m->Ij N (pP M c o) m
 |.inl _,⟨d,a⟩=>⟨d,fun i b=>⟨(a i b).1,aqh (a i b).2 (by have :=Yy M c i o;omega)⟩⟩
 |.inr _,h=>fun y e=>(h y e).add
theorem Yz{M:Nat->List av}{c:Nat}{o:av}:∀n,tn (pP M c o) n=tn M n+if c<n then 1 else 0
 |0=>by simp[tn]
 |n+1=>by
  unfold tn;rw[Yz n];by_cases h:n=c
  ·subst h
   rw[nz,if_neg (by omega),if_pos (by omega),aoW];simp;omega
  ·rw[rh _ _ h]
   by_cases a:c<n
   ·rw[if_pos a,if_pos (by omega)];omega
   ·rw[if_neg a,if_neg (by omega)];omega
theorem YA{N:Nat}{M:Nat->List av}(h:∀c,c<N->(M c).length<=60):∀n,n<=N->tn M n<=n*60
 |0,_=>aoP _
 |n+1,a=>by
  have b:=YA h n (by omega);have d:=h n (by omega);unfold tn;omega
theorem take_add{c:Nat}{o:av}(h:b<=(d a).length):(pP d c o a).take b=(d a).take b:=by
 by_cases e:a=c
 ·subst e;rw[nz,ap3 h]
 ·rw[rh _ _ e]
theorem kI.add{N M gt b d early}(h:kI N M gt b d early)(c:Nat)(o:av):kI N (pP M c o) gt b d early:=by
 refine⟨fun e a=>⟨(h.kG e a).1,aqh (h.kG e a).2 (by have :=Yy M c e o;omega)⟩,?_,h.yg,fun p f=>⟨(h.FR p f).1.add,(h.FR p f).2⟩,h.QQ⟩;rw[QR (M':=M) (has':=b) fun e a=>take_add (by have :=h.kG e a;omega)];exact h.perm
theorem YB{M:Nat->List av}{a:Nat->Int}{c:Nat}{o:av}{N:Nat}(b:∀e,e<N->0<=a e/\a e<=(M e).length)(f:a c=(M c).length):∀n,n<=N->(nV (pP M c o) (upd a c (a c+1)) n).Perm (nV M a n++if c<n then[o] else[])
 |0,_=>by simp[nV]
 |n+1,j=>by
  have ih:=YB (o:=o) b f n (by omega);rw[Bw,Bw];by_cases h:n=c
  ·subst h
   rw[nz,bN,if_pos (by omega)];rw[if_neg (by omega),apu]at ih;have g:(M n++[o]).take (a n+1).toNat=M n++[o]:=apc (by rw[aoW];simp;omega);have i:(M n).take (a n).toNat=M n:=apc (by omega);rw[g,i,apf];exact ih.append_right _
  ·have k:=b n (by omega)
   rw[ck _ _ h,take_add (by omega)];by_cases d:c<n
   ·rw[if_pos d]at ih
    rw[if_pos (by omega)];refine(ih.append_right _).trans ?_;rw[apf,apf];exact arv _ aq6
   ·rw[if_neg d]at ih
    rw[if_neg (by omega),apu];rw[apu]at ih;exact ih.append_right _
theorem hP.wrote{s}(h:hP b d s)(C:a<b)(hl:(d a).length<60)(N:kS)(t:TypeId)(v:Value):
  hP b (pP d a (ke a (s.gt a) (s.has a) N t v)) (l4 s a (s.gt a+1) (upd (s.has a) a (s.has a a+1)) (s.ops a++[ke a (s.gt a) (s.has a) N t v]) (s.kept a++[ke a (s.gt a) (s.has a) N t v]) (s.early a)):=by
 obtain⟨o,F⟩:∃o,o=ke a (s.gt a) (s.has a) N t v:=⟨_,rfl⟩;have bg:o.op.id.1=s.gt a+1:=by rw[F];rfl
 have bH:o.op.id.2=(a:Int):=by rw[F];rfl
 have k6:o.op.nth=s.has a a+1:=by rw[F];rfl
 rw[<-F];clear F;have S:=h.own a C;have hg0:=(h.wB a C).1;have hle:∀y∈d a,y.op.id.1<=s.gt a:=fun y q=>by
  have QV:mV b d y:=⟨a,C,q⟩;obtain⟨i,x,e,b1,a2,_⟩:=h.made.at C q;exact(h.copy a C).yg y (((h.copy a C).mem h.made QV).2 (by rw[show y.op.id.2.toNat=a by omega];omega))
 have ahK:jj b (pP d a o):=by
  refine⟨fun e n i x=> ?_,fun e n=> ?_,fun e n=> ?_⟩
  ·by_cases r:e=a
   ·subst r
    simp only[nz]at x⊢;rw[aoW,ap1]at x;by_cases U:i<(d e).length
    ·rw[aqn U]
     exact h.made.id e n i U
    ·have I:i=(d e).length:=by omega
     subst I;rw[List.getElem_append_right (aoP _)];simp only[Nat.sub_self,arb];exact⟨bH,by rw[k6,S],by rw[bg];omega⟩
   ·simp only[rh _ _ r]at x⊢
    exact h.made.id e n i x
  ·by_cases r:e=a
   ·subst r
    rw[nz,aoW,ap1];omega
   ·rw[rh _ _ r];exact h.made.len e n
  ·by_cases r:e=a
   ·subst r
    rw[nz];refine ap9.2 ⟨h.made.kd e n,aqZ _ _,fun j z k B=> ?_⟩;obtain rfl:=ao2.1 B;have :=hle j z;omega
   ·rw[rh _ _ r];exact h.made.kd e n
 have P:∀j i,s.has j i<=upd s.has a (upd (s.has a) a (s.has a a+1)) j i:=fun j i=>by
  by_cases W:j=a
  ·subst W
   rw[bN];by_cases X:i=j
   ·subst X;rw[bN];omega
   ·rw[ck _ _ X];exact apY _
  ·rw[ck _ _ W];exact apY _
 have Y:∀c,c<b->∀l,tp b d (s.has c) c l->tp b (pP d a o) (upd s.has a (upd (s.has a) a (s.has a a+1)) c) c l:=fun c w l E=>by
  refine⟨fun i x=>⟨(E.1 i x).1,aqh (E.1 i x).2 (P c i)⟩,fun y q D e n g u cP=> ?_⟩;have Q:g∈d e:=by
   by_cases r:e=a
   ·subst r
    rw[nz]at u;rcases aoZ.1 u with u|u
    ·exact u
    ·exfalso
     obtain rfl:=ao2.1 u;have h1:=(E.1 e n).2;have h2:=((h.copy c w).kG e n).2;omega
   ·rw[rh _ _ r]at u;exact u
  by_cases L:c=a
  ·subst L
   rw[nz]at q;rcases aoZ.1 q with q|q
   ·exact E.2 y q D e n g Q cP
   ·obtain rfl:=ao2.1 q
    obtain⟨i,x,_,b1,a2,_⟩:=h.made.at n Q;have h1:=(E.1 e n).2;have :=(h.copy c w).yg g (((h.copy c w).mem h.made ⟨e,n,Q⟩).2 (by rw[show g.op.id.2.toNat=e by omega];omega));omega
  ·rw[rh _ _ L]at q
   exact E.2 y q D e n g Q cP
 have bA:∀c,c<b->∀m,DO b d (s.has c) c m->DO b (pP d a o) (upd s.has a (upd (s.has a) a (s.has a a+1)) c) c m:=fun c w m=>by
  cases m with
  |inl l=>exact Y c w (rowOf l)
  |inr _=>exact fun _=>trivial
 refine⟨ahK,fun e n=> ?_,fun e n=> ?_,fun e n=> ?_,fun e n=> ?_,fun e n y q=> ?_,fun j k z B M m R=>(h.msgs j k z B M m R).add,fun e n=> ?_,fun j k z B M m R=>bA j z m (h.wC j k z B M m R),fun j k z B M=>Y k B _ (h.FV j k z B M),fun e n g u c w=>aqh (h.FW e n g u c w) (P c _),fun e n g u c w y q D=> ?_⟩
 ·unfold l4
  by_cases r:e=a
  ·subst r
   simp only[bN];refine⟨fun i x=> ?_,?_,fun y q=> ?_,fun p ag=>⟨((h.copy e n).FR p ag).1.add,((h.copy e n).FR p ag).2⟩,(h.copy e n).QQ⟩
   ·by_cases I:i=e
    ·subst I
     rw[bN,nz,aoW,ap1];omega
    ·rw[ck _ _ I,rh _ _ I]
     exact(h.copy e n).kG i x
   ·have :=YB (o:=o) (h.copy e n).kG S b (aoP _)
    rw[if_pos n]at this;exact((h.copy e n).perm.append_right _).trans this.symm
   ·rcases aoZ.1 q with q|q
    ·have :=(h.copy e n).yg y q;omega
    ·obtain rfl:=ao2.1 q;omega
  ·simp only[ck _ _ r]
   exact(h.copy e n).add a o
 ·unfold l4
  by_cases r:e=a
  ·subst r
   simp only[bN];rw[nz,aoW,ap1];omega
  ·simp only[ck _ _ r]
   rw[rh _ _ r];exact h.own e n
 ·unfold l4
  by_cases r:e=a
  ·subst r
   simp only[bN];refine ap9.2 ⟨h.kd e n,aqZ _ _,fun j z k B=> ?_⟩;obtain rfl:=ao2.1 B;have :=(h.copy e n).yg j z;exact(q3 _ _).2 (.inl (by omega))
  ·simp only[ck _ _ r]
   exact h.kd e n
 ·unfold l4
  by_cases r:e=a
  ·subst r
   simp only[bN];refine⟨by omega,fun g u _=> ?_⟩;have :=u e n o (by rw[nz];simp);omega
  ·simp only[ck _ _ r]
   obtain⟨g0,g1⟩:=h.wB e n;exact⟨g0,fun g u h0=>g1 g (fun f aD y q=>u f aD y (Yx q)) h0⟩
 ·rw[Yz,if_pos C]
  by_cases r:e=a
  ·subst r
   rw[nz]at q;rcases aoZ.1 q with q|q
   ·have :=h.cnt e n y q
    omega
   ·obtain rfl:=ao2.1 q
    have :=(h.wB e n).2 (tn d b) h.cnt (ao0 _);omega
  ·rw[rh _ _ r]at q
   have :=h.cnt e n y q;omega
 ·unfold l4
  by_cases r:e=a
  ·subst r
   simp only[bN];rw[h.mU e n,apf]
  ·simp only[ck _ _ r]
   exact h.mU e n
 ·replace D:upd s.has a (upd (s.has a) a (s.has a a+1)) e c<y.op.nth:=D
  by_cases L:c=a
  ·subst L
   rw[nz]at q;rcases aoZ.1 q with q|q
   ·exact h.FX e n g u c w y q (Int.lt_of_le_of_lt (P e c) D)
   ·obtain rfl:=ao2.1 q
    have c9:g∈s.ops e:=by rw[h.mU e n];exact apR _ u
    have qu:=(h.copy e n).made c9;have :=(h.copy c w).yg g (((h.copy c w).mem h.made qu).2 (h.FW e n g u c w));omega
  ·rw[rh _ _ L]at q
   exact h.FX e n g u c w y q (Int.lt_of_le_of_lt (P e c) D)
theorem Bz.wrote(h:Bz b d)(l:Ik (d a) e.op.chg):Bz b (pP d a e):=fun c g i f=>by
 by_cases j:c=a
 ·subst j
  simp only[nz]at f⊢;rw[aoW,ap1]at f;by_cases k:i<(d c).length
  ·rw[aqn k,ap3 (by omega)]
   exact h c g i k
  ·have m:i=(d c).length:=by omega
   subst m;rw[List.getElem_append_right (aoP _),ap3 (aoP _),aqa];simp only[Nat.sub_self,arb];exact l
 ·simp only[rh _ _ j]at f⊢
  exact h c g i f
end
section
open Go.RowKit Tryz
attribute [local go_sem ↓] Go.wp_at_zero Go.wp_at_succ
theorem zH.after{r N a F I w W b s c d}(e:c0 F c w W)(f:DL I d w W)(h:zH r N a c d W b s):zH r N a F I w b s:=by
 obtain⟨g,i,j,k,l,m⟩:=h;exact⟨g,i,j,k,e.trans l,f.trans m e.size⟩
def ahL (r N b:Nat) (F I:Nat->Prop) (s:bO) (c d:Nat) (w:World) (e:Ending) (f:World):Prop:=e=.returned (A (if s.ms c d=[] then 12 else 0))/\∃a,Bx N s c d a/\zH r N b F I w f a
theorem ahM{w r F I N sp s x M}(h:gb w r F I N sp s x)(ok:hP N M s){c d:Nat}(n:c<N)(a:d<N)(u:c≠d):
  O 39 #[Z r,A c,A d] w fun e w'=>ahL r N sp F I s c d w e w':=by
 have E:=aa (aho h n a u);have hN:=h.hN;cases j:s.ms c d with
 |nil=>
  rw[if_pos j]at E;have z:=aa j;have aC:=aa h;clear h j ok;go_enter func39,ntmps39;go_wp2_with fail
  refine E.o.mono ?_;rintro e w1 ⟨rfl,rfl⟩;go_wp2;go_ret
  exact(show _/\_ from⟨by rw[if_pos z.o];rfl,s,(by unfold Bx;rw[z.o]),aC.o.same (aoQ _ _)⟩)
 |cons m ms=>
  have z:=aa j;rw[if_neg (by rw[j];simp)]at E;obtain⟨t,v,l,aH,h1,h2,_,_⟩:=h.first n a u j
  have L:=h.link c d n a u;rw[aH]at L;have iA:=aa (ahf L);have W:=XS w (x.gc c d) 12 l.toArray (s.sh c d) (x.vm c d) (x.yd c d+1) false;have P:=h.Ih n a u L.taken W h2;have Q:c0 F F w _:=QO (F:=F) (aoQ _ _) W (h.dK c d n a u).2;have b:∀k,I k->(w.setChan (x.gc c d) 12 l.toArray (s.sh c d) (x.vm c d) (x.yd c d+1) false).heap[k]?=w.heap[k]?:=fun k f=>Q.other k (h.cJ k f) (h.eT k f)
  have vo:=h1.gU b W.size (fun _ y=>y);obtain⟨w1,iz⟩:∃w1,w.setChan (x.gc c d) 12 l.toArray (s.sh c d) (x.vm c d) (x.yd c d+1) false=w1:=⟨_,rfl⟩;rw[iz]at iA P Q b vo;clear W iz;have C:=ok.msgs c d n a u m (by rw[j];exact ao6);have R:hP N M (kX s c d ms):=ok.ms (fun m' bn=>ok.msgs c d n a u m' (by rw[j];exact apa _ bn)) (fun m' bn=>ok.wC c d n a u m' (by rw[j];exact apa _ bn));have X:∀i,i<N->0<=s.has d i/\s.has d i<=60:=fun i b=>by
   have aj:=(ok.copy d a).kG i b;have aw:=ok.made.len i b;omega
  have Y:=aa (And.intro Q b);cases m with
  |inl q=>
   obtain⟨g,Bv,e,hr,q8⟩:=vo;obtain⟨Bi,LQ⟩:=C;rw[Bi]at e hr;simp only[Value.iface.injEq]at e;obtain⟨rfl,rfl⟩:=e;have bR:=aa (ahA P n a u hr q8 (fun i b=>⟨(LQ i b).1,(X i b).2⟩) (fun i b=>by
    have aw:=ok.made.len i b;have :=(LQ i b).2;omega) (fun y S=>(ok.copy d a).copy ok.made ((ok.LY a).subset S)) (((ok.copy d a).ahs ok.made).sublist ((ok.LY a).map _)))
   clear h ok j h1 h2 L aH hr P Q b LQ R X q8;go_enter func39,ntmps39;go_wp2_with fail
   refine E.o.mono ?_;rintro e w2 ⟨rfl,rfl⟩;go_wp2_with fail
   refine iA.o.mono ?_;rintro e w3 ⟨rfl,rfl⟩;go_wp2_with fail
   refine bR.o.mono ?_;rintro e w4 ⟨⟨v4,rfl⟩,ls,B,au,U⟩;have D:=aa (And.intro B (And.intro au U));clear B au U;go_wp2;go_ret
   refine(show _/\_ from⟨by rw[z.o];rfl,_,?_,D.o.2.2.after Y.o.1 ⟨fun k f=>⟨f,Y.o.2 k f⟩,fun _ f=>.inl f⟩⟩);unfold Bx;rw[z.o];exact⟨ls,D.o.1,D.o.2.1,rfl⟩
  |inr xs=>
   obtain⟨aoH,e,CT⟩:=vo;simp only[Value.iface.injEq]at e;obtain⟨rfl,rfl⟩:=e;obtain⟨e3,hn⟩:=R.wait a C;obtain⟨o0,hlen⟩:=R.fin a C;have bR:=aa (ahB P n a u xs CT (fun y S=>(ok.made.nth (C y S)).2.2) hn (fun p B=>by
    rw[(e3 p B).2];exact(ok.made.nth (e3 p B).1).2.1) (fun i b=>by have :=X i b;exact⟨this.1,by show s.has d i<=1000;omega⟩) o0 (aoS hlen (by omega)) (R.ahead a C) (fun y S=>by
    obtain⟨p,B,rfl⟩:=LB S;exact(ok.made.nth (e3 p B).1).2.2))
   clear h ok j h1 h2 L aH P Q b R X e3 hn o0 hlen CT C;go_enter func39,ntmps39;go_wp2_with fail
   refine E.o.mono ?_;rintro e w2 ⟨rfl,rfl⟩;go_wp2_with fail
   refine iA.o.mono ?_;rintro e w3 ⟨rfl,rfl⟩;go_wp2_with fail
   refine bR.o.mono ?_;rintro e w4 ⟨⟨v4,rfl⟩,ir,fx,U⟩;have D:=aa (And.intro fx U);clear fx U;go_wp2;go_ret
   refine(show _/\_ from⟨by rw[z.o];rfl,_,?_,D.o.2.after Y.o.1 ⟨fun k f=>⟨f,Y.o.2 k f⟩,fun _ f=>.inl f⟩⟩);unfold Bx;rw[z.o];exact⟨ir,D.o.1,rfl⟩
end
section
open Go.RowKit Tryz
variable {a f i j:Nat}{b:Nat->List av}{d h:Nat->Prop}{e:bO}{k:World}{l:dc}
structure dJ (w:World) (r:Nat) (F I:Nat->Prop) (N sp:Nat) (M:Nat->List av) (s:bO) (x:dc):Prop where
 m:gb w r F I N sp s x
 ok:hP N M s
 md:Bz N M
theorem L2 {α:Type} [DecidableEq α]:∀{l m:List α},l.Nodup->(∀a∈l,a∈m)->l.length<=m.length
 |[],_,_,_=>aoR _
 |a::l,m,h,c=>by
  obtain⟨f,g⟩:=apg.1 h;have :=L2 (m:=m.erase a) g fun b d=>by
   have i:b≠a:=fun e=>by rw[e]at d;exact f d
   exact(List.mem_erase_of_ne i).2 (c b (apa _ d))
  rw[List.length_erase_of_mem (c a ao6)]at this;have j:=List.length_pos_of_mem (c a ao6);simp only[apd];omega
theorem ahN{R D j}(k:eA R D)(w:fG D)(x:o2 R j)(S:j.length<=10000)(c:PId)(s:ByteArray)(t:PId):(eY D.1 D.2 c s t).aB.length<=10000/\((eY D.1 D.2 c s t).aB.map (·.1)).Nodup:=by
 have z:∀(l:List (PId×dR)) (d:List cE),l.Perm (d.map mQ)->(l.map (·.1)).Nodup->(∀y∈d,y.cD∈j)->l.length<=10000:=fun l d f b F=>by
  have :=L2 (m:=j) b fun a I=>by
   obtain⟨p,L,rfl⟩:=aoX.1 I;obtain⟨y,g,rfl⟩:=aoX.1 (f.mem_iff.1 L);exact F y g
  rw[aoU]at this;omega
 unfold eY;split
 ·rename_i n
  split
  ·split
   ·rename_i e u
    have b:=w.mL _ (fQ u);refine⟨?_,b⟩;obtain⟨o,h,v,M⟩:=k.el t e u;obtain⟨q,d,N⟩:=aoX.1 M;obtain⟨_,_,r⟩:=k.bg _ o h;obtain⟨_,_,U,B,_,f⟩:=r.elems v q d;rw[N,u]at B;cases B;exact z _ _ f b (x.cD _ o h q d)
   ·exact⟨aoR _,apT⟩
  ·rename_i P
   split
   ·rename_i W i
    split
    ·rename_i X C
     have b:=w.fE _ (fQ i) _ (fQ C);refine⟨?_,b⟩;cases h:bl R c with
     |none=>rw[k.c7 c h]at i;cases i
     |some o=>
      obtain⟨Y,E,r⟩:=k.bg c o h;rw[i]at E;cases E;have v:o.list=false:=by
       unfold lA at n;rw[if_neg P,i]at n;simp only[aqP,Bool.true_and,nh,i,Bool.not_eq_true']at n;rw[<-r.list];exact n
      have f:=r.E9 v s;rw[C]at f;refine z _ _ f b fun y g=> ?_
      unfold fD at g;split at g
      ·rename_i q Q
       exact x.cD c o h q (aqi Q) y g
      ·cases g
    ·exact⟨aoR _,apT⟩
   ·exact⟨aoR _,apT⟩
 ·exact⟨aoR _,apT⟩
theorem dJ.doc{r}(c:dJ k j d h i r b e l)(g:a<i):eA (cn (e.ops a)) (l.q a).D/\fG (l.q a).D/\o2 (cn (e.ops a)) (((e.ops a).map fun o=>o.op.id).reverse):=by
 have n:=(c.m.eM a g).jM.did;rw[<-aoU (f:=fun o:av=>o.op),aqa]at n;obtain⟨s,t,_,u⟩:=c.m.kH a g;have p:mN (l.q a).D0.1 ((l.q a).D0.2++(e.kept a).map (·.op)) (l.q a).D:=n;rw[u,<-ao8,<-c.m.mU a g]at p;exact ahJ s t (Yp c.ok.made c.md (c.ok.copy a g) (c.ok.kd a g)) p
theorem dJ.kH(c:dJ k i d h f j b e l)(g:a<f):eA (cn (e.ops a)) (l.q a).D:=(c.doc g).1
theorem dJ.len{w r F I N a M s x}(h:dJ w r F I N a M s x){c:Nat}(b:c<N):(s.ops c).length<=240:=by
 have d:=(h.ok.copy c b).len h.ok.made;have e:=h.m.hN;omega
theorem dJ.ui(c:dJ k i d h f j b e l)(r:a<f):FY a (e.gt a) (e.has a) (e.kept a) (l.q a):=by
 have u:=c.len r;have s:=c.ok.LY r;have v:=s.length_le;have w:=c.m.hN;have x:=YA c.ok.made.len f (aoP _);have y:=(c.ok.wB a r).2 (tn b f) c.ok.cnt (ao0 _);have z:=c.ok.made.len a r;have B:=c.ok.own a r;refine⟨⟨(c.ok.wB a r).1,by omega⟩,⟨by omega,by omega⟩,fun o t=>(c.ok.copy a r).yg o (s.subset t),by omega,?_⟩;obtain⟨g,n,p⟩:=c.doc r;exact ahN g n p (by rw[List.length_reverse,aoU];omega)
theorem dJ.gY{w s x}(c:dJ w j d h i s b e x)(k:f<i){y:PId}{o:ba}(l:bl (cn (e.ops f)) y=some o)(n:o.list=true):o.ss.length<=300:=by
 obtain⟨a,_,g⟩:=c.doc k;obtain⟨u,v,p⟩:=a.bg y o l;have B:=c.len k;have :=L2 (m:=((e.ops f).map fun o=>o.op.id).reverse) (p.C0 n) fun z t=>by
  obtain⟨q,r,rfl⟩:=aoX.1 t;exact(g.slot y o l q r).resolve_left (p.elems n q r).2.1
 rw[aoU,List.length_reverse,aoU]at this;omega
theorem dJ.af{w r F I N a M s x}(h:dJ w r F I N a M s x){w':World}(b:J w w'):dJ w' r F I N a M s x:=⟨h.m.af b,h.ok,h.md⟩
end
section
open Go.RowKit Tryz
attribute [local go_sem ↓] Go.wp_at_zero Go.wp_at_succ
variable {a:List ba}{b f m:Nat}{d:PId}{e:World}{h:Nat->List av}{i l:Nat->Prop}{j:bO}{k:dc}{n:Int}{q:ba}
theorem ahO(s:ByteArray)(w:World)(l:s.size<=maxLen):
  O 83 #[.string s] w fun e m=>e=.returned (.bool (km s))/\m=w:=by
 unfold maxLen at l;by_cases c:0<s.size
 ·by_cases d:s.size<=4
  ·go_enter func83,ntmps83
   go_wp2;go_loop [14] (fun i=>∃k:Nat,k<=s.size/\i=A k/\Hq (letters (s.data.toList.take k)=true)) (fun i=>s.size-(intOf i).toNat)
   case atStart=>exact⟨0,aoR _,rfl,rfl⟩
   case round=>
    obtain⟨k,n,rfl,f⟩:=hrel;by_cases b:k<s.size
    ·by_cases g:(97:Int)<=s[k].toNat
     ·by_cases j:(s[k].toNat:Int)<=122
      ·have a:=aa (S6 b f.o g j)
       go_wp2;go_round
       case rel=>exact⟨k+1,by omega,by go_num,a⟩
       case measure=>simp[intOf];omega
      ·have a:Hq _:=JT b (fun h=>j h.2)
       go_wp2;go_ret
       exact⟨l9 a.o.symm,rfl⟩
     ·have a:Hq _:=JT b (fun h=>g h.1)
      go_wp2;go_ret
      exact⟨l9 a.o.symm,rfl⟩
    ·have e:letters s.data.toList=true:=by
      have :=f.o;rwa [apc (by simp;omega)]at this
     have a:=aa (show km s=true by unfold km;rw[e];simp[c,d]);clear e;go_wp2;go_ret
     exact⟨l9 a.o.symm,rfl⟩
  ·have a:=aa (show km s=false by unfold km;simp[d])
   go_enter func83,ntmps83;go_wp2;go_ret
   exact⟨l9 a.o.symm,rfl⟩
 ·have a:=aa (show km s=false by unfold km;simp[c])
  go_enter func83,ntmps83;go_wp2;go_ret
  exact⟨l9 a.o.symm,rfl⟩
theorem YG(a b:Int)(c:ByteArray)(w:World):O 84 #[.agg #[A a,A b],.string c] w fun e d=>e=.returned (.agg #[A a,A b,.string c,A 0,A 0])/\J w d:=by
 have f:=aa (((aoQ w.heap.size w).alloc (aoP _) (.cells #[A a,A b] 36)).alloc (by simp) (.cells #[A a,A b,.string c,A 0,A 0] 97));go_enter func84,ntmps84;go_wp2;refine bodyPost_ret (v:=.agg #[A a,A b,.string c,A 0,A 0]) (by simp[results,results84,go_sem]) rfl ?_;exact⟨rfl,f.o⟩
theorem L3(a b c d:Int)(w:World):O 63 #[.agg #[A a,A b],.agg #[A c,A d]] w fun e f=>e=.returned (.agg #[A a,A b,.string ⟨#[]⟩,A c,A d])/\J w f:=by
 have g:=aa ((((aoQ w.heap.size w).alloc (aoP _) (.cells #[A a,A b] 36)).alloc (by simp) (.cells #[A c,A d] 36)).alloc (by simp;omega) (.cells #[A a,A b,.string ⟨#[]⟩,A c,A d] 97));go_enter func63,ntmps63;go_wp2;refine bodyPost_ret (v:=.agg #[A a,A b,.string ⟨#[]⟩,A c,A d]) (by simp[results,results63,go_sem]) rfl ?_;exact⟨rfl,g.o⟩
theorem eA.has{D}(h:eA a D)(x:PId):(bq x D.1).isSome=(bl a x).isSome:=by
 cases b:bl a x with
 |none=>rw[h.c7 x b];rfl
 |some o=>obtain⟨d,c,_⟩:=h.bg x o b;rw[c];rfl
theorem eA.aO{D}(h:eA a D)(b:bl a d=some q):nh d D.1=q.list:=by
 obtain⟨f,c,e⟩:=h.bg d q b;unfold nh;rw[c];exact e.list
def YH (R:List ba) (x:PId) (a:Bool) (b:Nat) (e:Ending):Prop:=
 (∃m,(m=3\/m=4)/\oF R x a=.error m/\e=.returned (.tuple #[.pointer none,A m]))\/∃o,bl R x=some o/\o.list=a/\e=.returned (.tuple #[Z b,A 0])
theorem L4{sp M}(h:dJ e b i l f sp M j k)(c:Nat)(Q:c<f)(n p:Int)(r:Bool):
  O 56 #[Z b,A c,.agg #[A n,A p],.bool r] e fun a y=>J e y/\YH (cn (j.ops c)) (n,p) r (k.ei c) a:=by
 have F:=h.m.eM c Q;have BB:=h.kH Q;have t:=aa ((aoQ e.heap.size e).alloc (aoP _) (.cells #[A n,A p] 36));have I:=aa (bL e (.cells #[A n,A p] 36));have dj:=aa (QM (h.m.af t.o) c Q);have S:=aa (fun W (z:J e W)=>x5 (F.af z));have L:=aa (show ∀W,J e W->O 89 #[Z ((k.q c).d),.agg #[A n,A p]] W fun a y=>a=.returned (.bool (bl (cn (j.ops c)) (n,p)).isSome)/\J W y from fun W z=>by
  rw[<-BB.has];exact GO (F.jM.q.af z) n p)
 have U:=aa (show ∀o,bl (cn (j.ops c)) (n,p)=some o->∀W,J e W->O 90 #[Z ((k.q c).d),.agg #[A n,A p]] W fun a y=>a=.returned (.bool o.list)/\J W y from fun o ae W z=>by
  rw[<-BB.aO ae];exact yL (F.jM.q.af z) n p)
 have b3:=Hv (cn (j.ops c)) (n,p) r;clear F h;generalize cn (j.ops c)=R at *;unfold YH;rcases b3 with⟨s,N⟩|⟨o,g,s,N,ak⟩
 ·rw[s]at L
  have B:=aa (And.intro s N);clear s N U;go_enter func56,ntmps56;go_wp2_with fail
  refine dj.o.mono ?_;rintro a w0 ⟨rfl,X⟩;subst X;go_wp2_with fail
  go_region_held3 (fun W=>W.cell? (V e 0)=some (A n)/\W.cell? (V e 1)=some (A p)) (first |exact bh I.o|exact bh C.o|exact bh D.o)
   (first
    |(go_at_call 48;refine(S.o _ t.o.drew).mono ?_;rintro a Y ⟨rfl,u⟩;have D:=aa (bj I.o (Hq.o (mq u)));have v:=aa (t.o.drew.trans (u.mono t.o.size));clear u)
    |(go_at_call 89;refine(L.o Y v.o).mono ?_;rintro a w2 ⟨rfl,w⟩;have C:=aa (bj D.o w);have E:=aa (v.o.trans (w.mono v.o.size));clear w))
  all_goals go_wp2
  all_goals go_ret2
  all_goals exact⟨E.o,.inl ⟨3,.inl rfl,B.o.2,rfl⟩⟩
 ·rw[s]at L
  have sN:=aa (U.o o s);clear U;have B:=aa (And.intro s ak);clear s N ak;obtain⟨x,bo⟩:∃x,o.list=x:=⟨_,rfl⟩;rw[bo]at sN;have nH:=aa bo;clear bo;have Hc:(x=r/\bl R (n,p)=some o/\o.list=r)\/(x≠r/\oF R (n,p) r=.error 4):=by
   by_cases a:x=r
   ·exact .inl ⟨a,B.o.1,nH.o.trans a⟩
   ·refine .inr ⟨a,?_⟩
    rw[B.o.2,if_neg (by rw[nH.o];exact a)]
  have qw:=aa Hc;clear Hc B nH;cases x<;>cases r
  all_goals go_enter func56,ntmps56
  all_goals go_wp2_with fail
  all_goals refine dj.o.mono ?_
  all_goals rintro a w0 ⟨rfl,X⟩
  all_goals subst X
  all_goals go_wp2_with fail
  all_goals(go_region_held3 (fun W=>W.cell? (V e 0)=some (A n)/\W.cell? (V e 1)=some (A p)) (first |exact bh I.o|exact bh C.o|exact bh D.o)
   (first
    |(go_at_call 48;refine(S.o _ t.o.drew).mono ?_;rintro a Y ⟨rfl,u⟩;have D:=aa (bj I.o (Hq.o (mq u)));have v:=aa (t.o.drew.trans (u.mono t.o.size));clear u)
    |(go_at_call 89;refine(L.o Y v.o).mono ?_;rintro a w2 ⟨rfl,w⟩;have C:=aa (bj D.o w);have E:=aa (v.o.trans (w.mono v.o.size));clear w)))
  all_goals go_wp2_with fail
  all_goals(go_region_held3 (fun W=>W.cell? (V e 0)=some (A n)/\W.cell? (V e 1)=some (A p)) (first |exact bh C.o|exact bh gn.o|exact bh ez.o)
   (first
    |(go_at_call 48;refine(S.o _ E.o.drew).mono ?_;rintro a w3 ⟨rfl,a8⟩;have ez:=aa (bj C.o (Hq.o (mq a8)));have bK:=aa (E.o.drew.trans (a8.mono E.o.size));clear a8)
    |(go_at_call 90;refine(sN.o w3 bK.o).mono ?_;rintro a w4 ⟨rfl,fC⟩;have gn:=aa (bj ez.o fC);have fw:=aa (bK.o.trans (fC.mono bK.o.size));clear fC)))
  all_goals go_wp2
  all_goals go_ret2
  all_goals(
   refine⟨fw.o,?_⟩;rcases qw.o with⟨a,P⟩|⟨a,P⟩
   ·first
     |exact .inr ⟨o,P.1,P.2,rfl⟩
     |(exact absurd a (by decide))
   ·first
     |exact .inl ⟨4,.inr rfl,P,rfl⟩
     |(exact absurd rfl a))
theorem ahP{key:ByteArray}(h:oF a d false=.error n):lQ a d key=.error n:=by unfold lQ;rw[h]
theorem zK{key:ByteArray}(c:bl a d=some q)(e:q.list=false):lQ a d key=if km key then .ok (fD q key (0,0)) else .error 5:=by
 unfold lQ;rcases Hv a d false with⟨b,_⟩|⟨h,k,b,f,g⟩
 ·rw[c]at b;cases b
 ·rw[c]at b
  cases b;rw[g,if_pos e];simp only[f]
theorem L5(h:oF a d true=.error n):iM a d=.error n:=by unfold iM;rw[h]
theorem ri(c:bl a d=some q)(e:q.list=true):iM a d=.ok (dw q):=by
 unfold iM;rcases Hv a d true with⟨b,_⟩|⟨h,k,b,f,g⟩
 ·rw[c]at b;cases b
 ·rw[c]at b
  cases b;rw[g,if_pos e];simp only[f]
theorem wE{W:World}(h:Below f e W)(j:f<=b)(a g c d i:Value):Below f e (((((W.setCell (H b) a).setCell (K b 1) g).setCell (K b 2) c).setCell (K b 3) d).setCell (K b 4) i):=
 ((((h.setCell j a).setCell j g).setCell j c).setCell j d).setCell j i
def ahQ (R:List ba) (x:PId) (a:ByteArray) (b:Nat) (e:Ending):Prop:=
 (∃m,(m=3\/m=4\/m=5)/\lQ R x a=.error m/\e=.returned (.tuple #[.pointer none,.agg #[A 0,A 0,.string ⟨#[]⟩,A 0,A 0],A m]))\/
 ∃o,bl R x=some o/\o.list=false/\km a=true/\lQ R x a=.ok (fD o a (0,0))/\e=.returned (.tuple #[Z b,.agg #[A x.1,A x.2,.string a,A 0,A 0],A 0])
theorem L6(d:dJ e b i l f m h j k)(c:Nat)(P:c<f)(n p:Int)(key:ByteArray)(Q:key.size<=maxLen):
  O 46 #[Z b,A c,.agg #[A n,A p],.string key] e fun a w'=>J e w'/\ahQ (cn (j.ops c)) (n,p) key (k.ei c) a:=by
 have x:=aa (((aoQ e.heap.size e).alloc (aoP _) (.cells #[A n,A p] 36)).alloc (by simp) (.cells #[A 0,A 0,.string ⟨#[]⟩,A 0,A 0] 97));have S:=aa (show((e.alloc (.cells #[A n,A p] 36)).alloc (.cells #[A 0,A 0,.string ⟨#[]⟩,A 0,A 0] 97)).heap[e.heap.size]?=some (.cells #[A n,A p] 36 (0,0)) from(hV _ _ (by simp)).trans (bL e _));have U:=aa (show((e.alloc (.cells #[A n,A p] 36)).alloc (.cells #[A 0,A 0,.string ⟨#[]⟩,A 0,A 0] 97)).heap[e.heap.size+1]?=some (.cells #[A 0,A 0,.string ⟨#[]⟩,A 0,A 0] 97 (0,0)) from(by
  have :=bL (e.alloc (.cells #[A n,A p] 36)) (.cells #[A 0,A 0,.string ⟨#[]⟩,A 0,A 0] 97);rw[show(e.alloc (.cells #[A n,A p] 36)).heap.size=e.heap.size+1 by simp]at this;exact this))
 have X:=aa (L4 (d.af x.o) c P n p false);clear d;generalize cn (j.ops c)=R at *;have Y:=aa (fun W=>ahO key W Q);go_enter func46,ntmps46;go_wp2_with fail
 refine X.o.mono ?_;rintro a w1 ⟨t,DR⟩;have bS:=aa (bj S.o t);have u:=aa (bj U.o t);have q:=aa (x.o.trans (t.mono x.o.size));clear t;obtain⟨F0,F1⟩:=bh bS.o;obtain⟨D,E,F,I,L⟩:=ga u.o;have mI:=cS u.o;have Ir:=aM u.o;rcases DR with⟨g,hm,M,rfl⟩|⟨o,y,z,rfl⟩
 ·have r:=aa (ahP (key:=key) M);clear M
  rcases hm with rfl|rfl
  all_goals go_wp2
  all_goals refine bodyPost_ret (v:=.tuple #[.pointer none,.agg #[A 0,A 0,.string ⟨#[]⟩,A 0,A 0],A _]) (by simp[results,results46,go_sem,D,E,F,I,L];rfl) rfl ?_
  ·exact⟨wE q.o (by omega) _ _ _ _ _,.inl ⟨3,.inl rfl,r.o,rfl⟩⟩
  ·exact⟨wE q.o (by omega) _ _ _ _ _,.inl ⟨4,.inr (.inl rfl),r.o,rfl⟩⟩
 ·have r:=aa (zK (key:=key) y z)
  have N:=aa (And.intro y z);clear y z;go_wp2_with fail
  refine(Y.o _).mono ?_;rintro a w2 ⟨rfl,eD⟩;subst eD;cases s:km key
  ·have w:=aa (show lQ R (n,p) key=.error 5 by rw[r.o,s];simp)
   clear s;go_wp2;refine bodyPost_ret (v:=.tuple #[.pointer none,.agg #[A 0,A 0,.string ⟨#[]⟩,A 0,A 0],A 5]) (by simp[results,results46,go_sem,D,E,F,I,L]) rfl ?_;exact⟨wE q.o (by omega) _ _ _ _ _,.inl ⟨5,.inr (.inr rfl),w.o,rfl⟩⟩
  ·have w:=aa (show km key=true/\lQ R (n,p) key=.ok (fD o key (0,0)) from⟨s,by rw[r.o,s];simp⟩)
   clear s;go_wp2_with fail
   refine(YG n p key _).mono ?_;rintro a w3 ⟨rfl,B⟩;have C:=aa (bj u.o B);have bK:=aa (q.o.trans (B.mono q.o.size));clear B;obtain⟨z0,z1,z2,z3,z4⟩:=ga C.o;have BA:=cS C.o;have aoI:=aM C.o;go_wp2;refine bodyPost_ret (v:=.tuple #[Z (k.ei c),.agg #[A n,A p,.string key,A 0,A 0],A 0]) (by simp[results,results46,go_sem,z0,z1,z2,z3,z4]) rfl ?_;exact⟨wE bK.o (by omega) _ _ _ _ _,.inr ⟨o,N.o.1,N.o.2,w.o.1,w.o.2,rfl⟩⟩
def ahR (R:List ba) (x:PId) (i:Int) (a:Nat) (e:Ending):Prop:=
 (∃m,(m=3\/m=4)/\iM R x=.error m/\e=.returned (.tuple #[.pointer none,A m]))\/
 ∃o,bl R x=some o/\o.list=true/\iM R x=.ok (dw o)/\((jL (dw o) i=none/\e=.returned (.tuple #[.pointer none,A 7]))\/∃b,jL (dw o) i=some b/\e=.returned (.tuple #[Z a,A 0]))
def ahS (R:List ba) (x:PId) (i:Int) (a:Nat) (e:Ending):Prop:=
 (∃m,(m=3\/m=4)/\iM R x=.error m/\e=.returned (.tuple #[.pointer none,.agg #[A 0,A 0,.string ⟨#[]⟩,A 0,A 0],A m]))\/
 ∃o,bl R x=some o/\o.list=true/\iM R x=.ok (dw o)/\(((i<0\/((dw o).length:Int)<=i)/\e=.returned (.tuple #[.pointer none,.agg #[A 0,A 0,.string ⟨#[]⟩,A 0,A 0],A 7]))\/(¬(i<0\/((dw o).length:Int)<=i)/\∃y,(dw o)[i.toNat]?=some y/\e=.returned (.tuple #[Z a,.agg #[A x.1,A x.2,.string ⟨#[]⟩,A y.1,A y.2],A 0])))
theorem QZ{l:List PId}:jL l n=none↔(n<0\/(l.length:Int)<n):=by
 unfold jL;by_cases h:n<0\/n>(l.length:Int)
 ·rw[if_pos h];exact⟨fun _=>h,fun _=>rfl⟩
 ·rw[if_neg h]
  constructor
  ·intro a
   split at a
   ·cases a
   ·rw[List.getElem?_eq_none_iff]at a
    omega
  ·intro a;exact absurd a h
theorem YI{M}(h:dJ e b i l f m M j k)(c:Nat)(x:c<f)(t v a:Int):
  O 59 #[Z b,A c,.agg #[A t,A v],A a] e fun d w'=>J e w'/\ahR (cn (j.ops c)) (t,v) a (k.ei c) d:=by
 have D:=h.m.eM c x;have S:=h.kH x;have y:=aa ((aoQ e.heap.size e).alloc (aoP _) (.cells #[A t,A v] 36));have U:=aa (bL e (.cells #[A t,A v] 36));have X:=aa (L4 (h.af y.o) c x t v true);have fO:=aa (fun W (E:J e W)=>x5 (D.af E));have Y:=aa (fun o (q:bl (cn (j.ops c)) (t,v)=some o) (C:o.list=true)=>D.elements S q C (aoS (h.gY x q C) (by omega)));have sy:=aa (show ∀o,bl (cn (j.ops c)) (t,v)=some o->o.list=true->(dw o).length<=300 from fun o q C=>by
  have h1:=h.gY x q C;have ak:(dw o).length<=o.ss.length:=by unfold dw;rw[aoU];exact apK _ _
  omega)
 clear h D S;generalize cn (j.ops c)=R at *;by_cases F:a<0
 ·have hdi:decide (a<0)=true:=decide_eq_true F
  go_enter func59,ntmps59;go_wp2_with fail
  refine X.o.mono ?_;rintro d w1 ⟨w,I⟩;have z:=aa (bj U.o w);have r:=aa (y.o.trans (w.mono y.o.size));clear w;obtain⟨F0,F1⟩:=bh z.o;rcases I with⟨g,L,B,rfl⟩|⟨o,q,s,rfl⟩
  ·have p:=aa (L5 B);clear B
   rcases L with rfl|rfl
   ·go_wp2
    go_ret2
    exact⟨r.o,.inl ⟨3,.inl rfl,p.o,rfl⟩⟩
   ·go_wp2
    go_ret2
    exact⟨r.o,.inl ⟨4,.inr rfl,p.o,rfl⟩⟩
  ·have p:=aa (And.intro q (And.intro s (ri q s)));clear q s
   go_wp2_with fail
   go_quiet (fail)
   go_wp2;go_ret2
   exact⟨below_drewN r.o _,.inr ⟨o,p.o.1,p.o.2.1,p.o.2.2,.inl ⟨QZ.2 (.inl F),rfl⟩⟩⟩
 ·have hdi:decide (a<0)=false:=decide_eq_false F
  go_enter func59,ntmps59;go_wp2_with fail
  refine X.o.mono ?_;rintro d w1 ⟨w,I⟩;have z:=aa (bj U.o w);have r:=aa (y.o.trans (w.mono y.o.size));clear w;obtain⟨F0,F1⟩:=bh z.o;rcases I with⟨g,L,B,rfl⟩|⟨o,q,s,rfl⟩
  ·have p:=aa (L5 B);clear B
   rcases L with rfl|rfl
   ·go_wp2
    go_ret2
    exact⟨r.o,.inl ⟨3,.inl rfl,p.o,rfl⟩⟩
   ·go_wp2
    go_ret2
    exact⟨r.o,.inl ⟨4,.inr rfl,p.o,rfl⟩⟩
  ·have p:=aa (And.intro q (And.intro s (ri q s)))
   have sN:=aa (Y.o o q s);have hlen:=sy.o o q s;clear q s Y sy;have ahT:(a>((dw o).length:Int))\/¬(a>((dw o).length:Int)):=Classical.em _;rcases ahT with lu|hle
   all_goals go_wp2_with fail
   all_goals(go_region_held3 (fun W=>W.cell? (V e 0)=some (A t)/\W.cell? (V e 1)=some (A v)) (first |exact bh z.o|exact bh ez.o|exact bh cz.o)
    (first
     |(go_at_call 48;refine(fO.o _ r.o.drew).mono ?_;rintro d w2 ⟨rfl,N⟩;have cz:=aa (bj z.o (Hq.o (mq N)));have P:=aa (r.o.drew.trans (N.mono r.o.size));clear N)
     |(go_at_call 57;refine(sN.o w2 P.o).mono ?_;rintro d w3 ⟨u,rfl,hu,Q⟩;obtain⟨kB,kC,rfl,_,_,_⟩:=bp hu;have ez:=aa (bj cz.o Q);have bK:=aa (P.o.trans (Q.mono P.o.size));clear Q hu)))
   ·go_wp2
    go_ret2
    exact⟨bK.o,.inr ⟨o,p.o.1,p.o.2.1,p.o.2.2,.inl ⟨QZ.2 (.inr lu),rfl⟩⟩⟩
   ·have TN:decide (((dw o).length:Int)<a)=false:=decide_eq_false (by omega)
    go_wp2;go_ret2
    refine⟨bK.o,.inr ⟨o,p.o.1,p.o.2.1,p.o.2.2,.inr ?_⟩⟩;cases E:jL (dw o) a with
    |some n=>exact⟨n,rfl,rfl⟩
    |none=>exfalso;have :=QZ.1 E;omega
theorem YJ{M}(h:dJ e b i l f m M j k)(c:Nat)(C:c<f)(p q d:Int):
  O 64 #[Z b,A c,.agg #[A p,A q],A d] e fun g w'=>J e w'/\ahS (cn (j.ops c)) (p,q) d (k.ei c) g:=by
 have U:=h.m.eM c C;have BB:=h.kH C;have X:=aa (((aoQ e.heap.size e).alloc (aoP _) (.cells #[A p,A q] 36)).alloc (by simp) (.cells #[A 0,A 0,.string ⟨#[]⟩,A 0,A 0] 97));have cU:=aa (show((e.alloc (.cells #[A p,A q] 36)).alloc (.cells #[A 0,A 0,.string ⟨#[]⟩,A 0,A 0] 97)).heap[e.heap.size]?=some (.cells #[A p,A q] 36 (0,0)) from(hV _ _ (by simp)).trans (bL e _));have l5:=aa (show((e.alloc (.cells #[A p,A q] 36)).alloc (.cells #[A 0,A 0,.string ⟨#[]⟩,A 0,A 0] 97)).heap[e.heap.size+1]?=some (.cells #[A 0,A 0,.string ⟨#[]⟩,A 0,A 0] 97 (0,0)) from(by
  have :=bL (e.alloc (.cells #[A p,A q] 36)) (.cells #[A 0,A 0,.string ⟨#[]⟩,A 0,A 0] 97);rw[show(e.alloc (.cells #[A p,A q] 36)).heap.size=e.heap.size+1 by simp]at this;exact this))
 have vr:=aa (L4 (h.af X.o) c C p q true);have fO:=aa (fun W (ab:J e W)=>x5 (U.af ab));have nk:=aa (fun o (s:bl (cn (j.ops c)) (p,q)=some o) (F:o.list=true)=>U.elements BB s F (aoS (h.gY C s F) (by omega)));have sy:=aa (show ∀o,bl (cn (j.ops c)) (p,q)=some o->o.list=true->(dw o).length<=300 from fun o s F=>by
  have h1:=h.gY C s F;have ak:(dw o).length<=o.ss.length:=by unfold dw;rw[aoU];exact apK _ _
  omega)
 clear h U BB;generalize cn (j.ops c)=R at *;go_enter func64,ntmps64;go_wp2_with fail
 refine vr.o.mono ?_;rintro g w1 ⟨I,DR⟩;have Y:=aa (bj cU.o I);have L:=aa (bj l5.o I);have D:=aa (X.o.trans (I.mono X.o.size));clear I;obtain⟨F0,F1⟩:=bh Y.o;rcases DR with⟨n,hm,ag,rfl⟩|⟨o,s,E,rfl⟩
 ·have r:=aa (L5 ag);clear ag
  obtain⟨t,w,x,y,z⟩:=ga L.o;have mI:=cS L.o;have Ir:=aM L.o;rcases hm with rfl|rfl
  ·go_wp2
   refine bodyPost_ret (v:=.tuple #[.pointer none,.agg #[A 0,A 0,.string ⟨#[]⟩,A 0,A 0],A 3]) (by simp[results,results64,go_sem,t,w,x,y,z]) rfl ?_;exact⟨wE D.o (by omega) _ _ _ _ _,.inl ⟨3,.inl rfl,r.o,rfl⟩⟩
  ·go_wp2
   refine bodyPost_ret (v:=.tuple #[.pointer none,.agg #[A 0,A 0,.string ⟨#[]⟩,A 0,A 0],A 4]) (by simp[results,results64,go_sem,t,w,x,y,z]) rfl ?_;exact⟨wE D.o (by omega) _ _ _ _ _,.inl ⟨4,.inr rfl,r.o,rfl⟩⟩
 ·have r:=aa (And.intro s (And.intro E (ri s E)))
  have sN:=aa (nk.o o s E);have hlen:=sy.o o s E;clear s E nk sy;go_wp2_with fail
  go_region_held3 (fun W=>W.cell? (V e 0)=some (A p)/\W.cell? (V e 1)=some (A q)) (first |exact bh Y.o|exact bh ez.o|exact bh cz.o)
   (first
    |(go_at_call 48;refine(fO.o _ D.o.drew).mono ?_;rintro g w2 ⟨rfl,N⟩;have cz:=aa (bj Y.o (Hq.o (mq N)));have jz:=aa (bj L.o (Hq.o (mq N)));have bf:=aa (D.o.drew.trans (N.mono D.o.size));clear N)
    |(go_at_call 57;refine(sN.o w2 bf.o).mono ?_;rintro g w3 ⟨u,rfl,hu,P⟩;obtain⟨kB,kC,rfl,uz,sL,hX⟩:=bp hu;have pA:=aa hX;have gi:=aa hu;have ez:=aa (bj cz.o P);have Q:=aa (bj jz.o P);have S:=aa (bf.o.trans (P.mono bf.o.size));clear P hu hX))
  unfold maxLen at sL;obtain⟨t,w,x,y,z⟩:=ga Q.o;have mI:=cS Q.o;have Ir:=aM Q.o;obtain⟨z0,z1⟩:=bh ez.o;clear F0 F1;by_cases pj:d<0
  ·go_wp2
   refine bodyPost_ret (v:=.tuple #[.pointer none,.agg #[A 0,A 0,.string ⟨#[]⟩,A 0,A 0],A 7]) (by simp[results,results64,go_sem,t,w,x,y,z]) rfl ?_;exact⟨wE S.o (by omega) _ _ _ _ _,.inr ⟨o,r.o.1,r.o.2.1,r.o.2.2,.inl ⟨.inl pj,rfl⟩⟩⟩
  ·by_cases je:((dw o).length:Int)<=d
   ·go_wp2
    refine bodyPost_ret (v:=.tuple #[.pointer none,.agg #[A 0,A 0,.string ⟨#[]⟩,A 0,A 0],A 7]) (by simp[results,results64,go_sem,t,w,x,y,z]) rfl ?_;exact⟨wE S.o (by omega) _ _ _ _ _,.inr ⟨o,r.o.1,r.o.2.1,r.o.2.2,.inl ⟨.inr je,rfl⟩⟩⟩
   ·obtain⟨a,rfl⟩:∃a:Nat,d=(a:Int):=⟨d.toNat,by omega⟩
    have ar:a<(dw o).length:=by omega
    obtain⟨tZ,rfl⟩:=pA.o a ar;obtain⟨u0,u1⟩:=er.cells gi.o.ids rfl a ar;have r6:(a:Int)<((dw o).length:Int):=by omega
    have HGL:=aa (aoT gi.o tZ rfl);clear pA;go_wp2_with fail
    go_region_with
     (first |(go_at_call 63;refine(L3 p q _ _ _).mono ?_;rintro g w4 ⟨rfl,fC⟩;have wi:=Hq.o (mq fC);have B:=aa (bj Q.o wi);have fw:=aa (S.o.trans (wi.mono S.o.size));clear fC wi;replace t:=(ga B.o).1;replace w:=(ga B.o).2.1;replace x:=(ga B.o).2.2.1;replace y:=(ga B.o).2.2.2.1;replace z:=(ga B.o).2.2.2.2;replace mI:=cS B.o;replace Ir:=aM B.o))
    all_goals go_wp2
    all_goals refine bodyPost_ret (v:=.tuple #[Z (k.ei c),.agg #[A p,A q,.string ⟨#[]⟩,A (dw o)[a].1,A (dw o)[a].2],A 0]) (by simp[results,results64,go_sem,t,w,x,y,z]) rfl ?_
    all_goals exact⟨wE fw.o (by omega) _ _ _ _ _,.inr ⟨o,r.o.1,r.o.2.1,r.o.2.2,.inr ⟨by omega,(dw o)[a],by simp[ar],rfl⟩⟩⟩
end
end Go.Proofs.YtnkpogjiiohapaaGreatDoor
