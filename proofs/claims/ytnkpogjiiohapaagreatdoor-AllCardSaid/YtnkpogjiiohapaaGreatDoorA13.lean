/- Our own text. -/
import Derived.Shelf.Spec.SlicesInsertGrow
import Derived.Test.YtnkpogjiiohapaaGreatDoorA12
set_option linter.unusedSimpArgs false
set_option linter.unusedVariables false
set_option maxRecDepth 1000000
set_option maxHeartbeats 4000000
namespace Go.Proofs.YtnkpogjiiohapaaGreatDoor
section
open Go.RowKit Go.Proofs Tryz
theorem akx:(prog.info? 210).map (λi=>(i.zero,i.size,i.bytes))=some (some (.agg #[A 0,A 0,A 0,.nilIface]),4,40):=by kernel_rfl
theorem aky{d b X a:List Value}{n i:Nat}(hF:b.length=n*4)(f:X.length=4)(p:i<n)(q:d=b.take (i*4)++a)(r:(n+1-i)*4<=a.length):
  ∀c,c=d.take (i*4)++X++d.drop (i*4+X.length)->c.length=d.length/\(c.take ((i+1)*4)++b.drop (i*4)++c.drop ((i+1)*4+(b.drop (i*4)).length)).length=d.length/\(c.take ((i+1)*4)++b.drop (i*4)++c.drop ((i+1)*4+(b.drop (i*4)).length)).take ((n+1)*4)=b.take (i*4)++X++b.drop (i*4):=by
 intro c h;have g:(b.take (i*4)).length=i*4:=by rw[gU];omega
 have j:(b.drop (i*4)).length=(n-i)*4:=by rw[ly,hF];omega
 have k:d.length=i*4+a.length:=by simp_all
 have l:d.take (i*4)=b.take (i*4):=by simp_all
 have m:c.length=d.length:=by rw[h,l];simp only[dh,ly,g,f,k];omega
 have o:c.take ((i+1)*4)=b.take (i*4)++X:=by
  rw[h,l];have e:(b.take (i*4)++X).length=(i+1)*4:=by rw[dh,g,f];omega
  rw[<-e,List.take_left]
 refine⟨m,?_,?_⟩
 .rw[o];simp only[dh,ly,g,f,hF,m,k];omega
 rw[o,Ay (by simp only[dh,g,f,j];omega),kp (by simp only[dh,g,f,j];omega)]
theorem akz {w:World} {b:Nat} {l:List ay} {y:Array Value} (R:w.heap[b]?=some (.cells y 210)) (cH:y.toList.take (l.length*4)=l.flatMap ec) (x:ay) (g:Nat) (S:w.heap[g]?=some (.cells (ec x).toArray 210 (0,0))) (i:Nat) (U:i<l.length) (hl:l.length<=100000):
  O 212 #[aa b l.length l.length,A i,aa g 1 1] w λe W=>∃G,e=ad (aa w.heap.size (l.length+1) G)/\eV 0 W (aa w.heap.size (l.length+1) G) (l.take i++x::l.drop i)/\J w W:=by
 obtain⟨Y,om,hz0,hzs,Mb⟩:=qH akx;have s:=rB ec 4 (λ_=>rfl) l;have gC:=aU R;have dG:=aU S;have fV:∀j v,(l.flatMap ec)[j]?=some v->w.cell? (K b j)=some v:=λj v n=>by
  rw[zb w b j y 210 (0,0) R];rw[<-cH,wq]at n
  simp_all
 have L8:∀v∈l.flatMap ec,v.oneCell'=true:=λv z=>by obtain⟨o,_,al⟩:=lg.1 z;exact CW o v al
 have B:i+(l.length+1-i)=l.length+1:=by omega
 have yh:(l.length:Int)+1-(i:Int)=((l.length+1-i:Nat):Int):=by omega
 have hold:(Builtin.firstCells Y.size i (aa b i l.length)).run prog w.drew=.ok ((l.flatMap ec).take (i*4)).toArray w.drew:=by
  rw[hzs];exact run_firstCells_some w.drew 4 i (H b) i l.length ((l.flatMap ec).take (i*4)) (by rw[gU,s];omega) (λj v n=>by
   rw[SS,sY];rw[wq]at n
   simp_all)
 have C:∀f,(Builtin.append_ #[202,3] f #[aa b i l.length,A ((l.length:Int)+1-(i:Int))]).run prog w=
   .ok (aa w.heap.size (l.length+1) (grownCap w (l.length+1) l.length 210)) (w.drew.alloc (.cells (((l.flatMap ec).take (i*4)).toArray++Builtin.zeroCells (Value.agg #[A 0,A 0,A 0,.nilIface]).cells (l.length+1-i)++Builtin.zeroCells (Value.agg #[A 0,A 0,A 0,.nilIface]).cells (grownCap w (l.length+1) l.length 210-(l.length+1))) 210)):=λf=>by
  have h:=Lib.run_append_grow_zeros (P:=prog) w 202 3 f 210 Y _ .i64 .i64 underlying202 underlying3 om hz0 (some (H b)) i l.length ((l.flatMap ec).take (i*4)) hold (l.length+1-i) (by omega) (by omega) (by omega) (by omega) (by rw[Mb];omega) (by rw[Mb,B];exact afR (by omega) (by omega));rw[B]at h;rw[yh];exact h
 obtain⟨G,t⟩:∃G,G=grownCap w (l.length+1) l.length 210:=⟨_,rfl⟩;have hGn:l.length+1<=G:=by rw[t];exact grownCap_ge w _ _ _
 have auo:G<=9223372036854775807:=by
  have :=grownCap_le_maxLen w (l.length+1) l.length 210 (by unfold maxLen;omega);rw[<-t]at this
  assumption
 rw[<-t]at C;obtain⟨a,UN⟩:∃a:List Value,a=(Builtin.zeroCells (Value.agg #[A 0,A 0,A 0,.nilIface]).cells (l.length+1-i)++Builtin.zeroCells (Value.agg #[A 0,A 0,A 0,.nilIface]).cells (G-(l.length+1))).toList:=⟨_,rfl⟩;obtain⟨c,abl⟩:∃c:Array Value,c=((l.flatMap ec).take (i*4)).toArray++Builtin.zeroCells (Value.agg #[A 0,A 0,A 0,.nilIface]).cells (l.length+1-i)++Builtin.zeroCells (Value.agg #[A 0,A 0,A 0,.nilIface]).cells (G-(l.length+1)):=⟨_,rfl⟩;rw[<-abl]at C;have D:c.toList=(l.flatMap ec).take (i*4)++a:=by simp_all
 have Mc:∀k,(Builtin.zeroCells (Value.agg #[A 0,A 0,A 0,.nilIface]).cells k).size=k*4:=λk=>by
  simp[Builtin.zeroCells,Value.cells]
  try omega
 have hZl:a.length=(l.length+1-i)*4+(G-(l.length+1))*4:=by rw[UN];simp[Mc]
 have E:c.size=G*4:=by have :=kq List.length D;rw[dh,gU,s,hZl]at this;simp only[afX]at this;omega
 have F:((w.alloc (.cells c 210)).drew).heap[w.heap.size]?=some (.cells c 210):=bZ w _;have I:=λk q=>(aV w (.cells c 210)).drew.block k q
 obtain⟨d,L⟩:∃d,d=(c.toList.take (i*4)++ec x++c.toList.drop (i*4+(ec x).length)).toArray:=⟨_,rfl⟩;obtain⟨h1l,h2l,h2t⟩:=aky (X:=ec x) s rfl U D (by omega) d.toList (by rw[L]);have UL:d.size=G*4:=by have :d.toList.length=c.toList.length:=h1l;simpa[E]using this
 have akA:∀f p,(Builtin.copy_ #[202,202] f #[.slice (some (V w (i*4))) (l.length+1-i) p,aa g 1 1]).run prog (w.alloc (.cells c 210)).drew=.ok (goInt (1:Nat)) ((w.alloc (.cells c 210)).drew.setRow w.heap.size d):=λf p=>by
  have r:Nat.min 1 (l.length+1-i)=1:=by simp only[af3];split <;>omega
  have :=Qd (P:=prog) (w.alloc (.cells c 210)).drew 202 202 f 210 w.heap.size (i*4) (l.length+1-i) p (H g) 1 1 4 c 210 (ec x) underlying202 L7 F (by rw[r];rfl) (λj v n=>by rw[SS,sY,zb _ g j _ 210 (0,0) ((I g dG).trans S)];simpa using n) (by rw[E];show i*4+4<=_;omega) (CW x)
  rw[r,<-L]at this;exact this
 have M:(((w.alloc (.cells c 210)).drew.setRow w.heap.size d).drew).heap[w.heap.size]?=some (.cells d 210):=OG _ _ c d 210 (0,0) F;have N:∀k,k<w.heap.size->(((w.alloc (.cells c 210)).drew.setRow w.heap.size d).drew).heap[k]?=w.heap[k]?:=λk q=>(SU _ _ k d (by omega)).trans (I k q)
 obtain⟨m,u⟩:∃m,m=(d.toList.take ((i+1)*4)++(l.flatMap ec).drop (i*4)++d.toList.drop ((i+1)*4+((l.flatMap ec).drop (i*4)).length)).toArray:=⟨_,rfl⟩;have gW:((l.flatMap ec).drop (i*4)).length=(l.length-i)*4:=by rw[ly,s];omega
 have akB:∀f p Q,(Builtin.copy_ #[202,202] f #[.slice (some (V w ((i+1)*4))) (l.length-i) p,.slice (some (K b (i*4))) (l.length-i) Q]).run prog (((w.alloc (.cells c 210)).drew.setRow w.heap.size d).drew)=.ok (goInt (l.length-i:Nat)) ((((w.alloc (.cells c 210)).drew.setRow w.heap.size d).drew).setRow w.heap.size m):=λf p Q=>by
  have r:Nat.min (l.length-i) (l.length-i)=l.length-i:=by simp
  have :=Qd (P:=prog) (((w.alloc (.cells c 210)).drew.setRow w.heap.size d).drew) 202 202 f 210 w.heap.size ((i+1)*4) (l.length-i) p (K b (i*4)) (l.length-i) Q 4 d 210 ((l.flatMap ec).drop (i*4)) underlying202 L7 M (by rw[gW,r]) (λj v n=>by rw[SS,wo (w:=w) (N b gC)];exact fV _ v (by rwa [YY]at n)) (by rw[gW,UL];omega) (λv z=>L8 v (tS z))
  rw[r,<-u]at this;exact this
 have CY:((((w.alloc (.cells c 210)).drew.setRow w.heap.size d).drew).setRow w.heap.size m).heap[w.heap.size]?=some (.cells m 210):=OG _ _ d m 210 (0,0) M;have Ev:∀k,k<w.heap.size->((((w.alloc (.cells c 210)).drew.setRow w.heap.size d).drew).setRow w.heap.size m).heap[k]?=w.heap[k]?:=λk q=>(SU _ _ k m (by omega)).trans (N k q)
 have ib:=ag (show eV 0 ((((w.alloc (.cells c 210)).drew.setRow w.heap.size d).drew).setRow w.heap.size m) (aa w.heap.size (l.length+1) G) (l.take i++x::l.drop i) from by
  have hlen:(l.take i++x::l.drop i).length=l.length+1:=by simp;omega
  unfold eV;rw[hlen];refine⟨by rw[rB ec 4 (λ_=>rfl),hlen],.inr ⟨w.heap.size,G,m,rfl,b6 _,CY,hGn,by unfold maxLen;omega,?_,?_⟩⟩
  .rw[u];have :_=c.toList.length:=h2l;simpa[E]using this
  rw[abh U,<-h2t,u])
 have bf:=ag (show J w ((((w.alloc (.cells c 210)).drew.setRow w.heap.size d).drew).setRow w.heap.size m) from⟨rfl,rfl,rfl,by rw[SV];show w.heap.size<=((w.alloc (.cells c 210)).drew.setRow w.heap.size d).heap.size;rw[SV];show w.heap.size<=(w.alloc (.cells c 210)).heap.size;simp,Ev⟩);have hz2:¬((i:Int)=(l.length:Int)):=by omega
 have jR:IntKind.i64.wrap ((i:Int)+1)=(i:Int)+1:=mN _ (by omega);have h3:i<=l.length:=by omega
 have GY:((i:Int)+1).toNat=i+1:=by omega
 have hGi:¬(G=i):=by omega
 have aup:¬(G=i+1):=by omega
 have hci:¬(l.length=i):=by omega
 have aA:(0:Int)<=(i:Int)+1:=by omega
 have bu:(i:Int)<=(l.length:Int):=by omega
 have hY:(i:Int)<=(l.length:Int)+1:=by omega
 have auq:(0:Int)<=(i:Int):=kG _;have mixed:prog.follows .mixedOrders=true:=by kernel_rfl
 clear u L abl UN t D hZl Mc h1l h2l h2t yh B hold fV L8 I N Ev F M CY;go_enter func212,ntmps212;go_wp2_with (first
  |(at_builtin;refine Lib.wpList_append_run _ rfl _ _ _ _ rfl _ _ rfl rfl _ _ (C _) ?_)
  |(at_builtin;refine wpList_copy_runI _ rfl _ _ 202 202 rfl _ _ rfl rfl (akA _ _) ?_))
 go_region_law_o (refine step_copy_runI rfl _ _ 202 202 rfl (.slice (some (V w ((i+1)*4))) (l.length-i) (G-(i+1))) (.slice (some (K b (i*4))) (l.length-i) (l.length-i)) (by simp[Act.eval,Act.put]) (by simp[Act.eval,Act.put]) (akB _ _ _) ?_)
 go_wp2;go_ret
 exact⟨G,rfl,ib.o,bf.o⟩
theorem akC {w:World} {v:Value} {l:List ay} (h:eV 0 w v l) (x:ay) (g:Nat) (o:w.heap[g]?=some (.cells (ec x).toArray 210 (0,0))) (B:v.ownBlock≠some g) (i:Nat) (C:i<=l.length) (p:l.length<=100000):
  O 212 #[v,A i,aa g 1 1] w λe d=>∃f,e=ad f/\eV 0 d f (l.take i++x::l.drop i)/\aR (λk=>v.ownBlock=some k) w d/\lB w v f:=by
 rcases Nat.eq_or_lt_of_le C with D|s
 .subst D;have n:∀j u,(ec x)[j]?=some u->w.cell? (K g j)=some u:=λj u N=>by
   rw[zb w g j _ 210 (0,0) o]
   simp_all
  refine(ako h x g (n 0 _ rfl) (n 1 _ rfl) (n 2 _ rfl) (n 3 _ rfl) p).mono λe d a=> ?_
  obtain⟨f,q,t,r,E⟩:=a;refine⟨f,q,?_,aR.up r λk m=>m,E⟩
  simp_all
 rcases h.2 with⟨_,P⟩|⟨b,c,Q,rfl,_,y,R,F,I,z⟩
 .omega
 unfold maxLen at F;have L:g≠b:=λe=>B (by rw[e];rfl)
 by_cases M:l.length+1<=c
 .refine(aku y I z M (by omega) x g o L i s p).mono λe d a=> ?_
  exact⟨_,a.1,by simp_all,a.2.2.mono λk m=>by rw[m];rfl,.inl rfl⟩
 obtain rfl:c=l.length:=by omega
 refine(akz y z x g o i s p).mono λe d a=> ?_
 obtain⟨G,q,t,r⟩:=a;exact⟨_,q,t,aR.cL r,.inr λk m=>by cases m;simp⟩
end
section
open Go.RowKit Tryz
attribute [local go_sem ↓] Go.wp_at_zero Go.wp_at_succ
variable {a c e f j:Nat}{b d:Value}{h:List Nat}{i:World}
def kP (w:World) (a b su:Nat) (c e:Value) (d:Nat):Prop:=w.heap[a]?=some (.cells #[A b,A su,c,e,Z d] 204)
theorem akE {w:World} {l:List ay} (h:kP w a c e b d f) (z:eV 0 w b l) (x:ay) (n:Nat) (I:n<=l.length) (nw:∀i (hi:i<l.length),i<n->pE l[i].op.id x.op.id<0) (Qb:∀i (hi:i<l.length),n<=i->0<pE l[i].op.id x.op.id) (L:l.length<=100000):
  O 189 #[Z a,.agg #[A x.op.id.1,A x.op.id.2,A x.op.cb,.iface x.t x.v]] w λg B=>∃C,g=ad (A n)/\kP B a c e C d f/\eV 0 B C (l.take n++x::l.drop n)/\lB w b C/\aR (λk=>k=a\/b.ownBlock=some k) w B:=by
 have M:=h;obtain⟨bw,bm,s,ce,eN⟩:=fh h;have Lh:=aU h;obtain⟨N,P,Q,R⟩:=Bh w (A x.op.id.1) (A x.op.id.2) (A x.op.cb) (.iface x.t x.v) 210;have D:=aV w (.cells #[A x.op.id.1,A x.op.id.2,A x.op.cb,.iface x.t x.v] 210);have kc:=λW (a:J w W)=>akp (dI z a) x n I nw Qb L
 obtain⟨j,m,rfl,kt,dM,aH⟩:=bz z;have E:=z;replace s:=ak D s;go_enter func189,ntmps189;go_wp2_with fail
 go_region_held3 (λW=>W.cell? (K a 2)=some (.slice j l.length m)/\W.cell? (V w 0)=some (A x.op.id.1)/\W.cell? (V w 1)=some (A x.op.id.2)/\W.cell? (V w 2)=some (A x.op.cb)/\W.cell? (V w 3)=some (.iface x.t x.v)) (go_keep)
  (first
   |(go_at_call 210;refine(kc _ D.drew).mono ?_;rintro g p ⟨rfl,aA⟩;have q:=Hq.o (nv aA);replace s:=ak q s;replace N:=ak q N;replace P:=ak q P;replace Q:=ak q Q;replace R:=ak q R;have r:=bp D q))
 have y:=(aV p (.cells #[A x.op.id.1,A x.op.id.2,A x.op.cb,.iface x.t x.v] 210)).drew;have du:=akC (w:=(p.alloc (.cells #[A x.op.id.1,A x.op.id.2,A x.op.cb,.iface x.t x.v] 210)).drew) (dI (dI E r) y) x p.heap.size (bZ p _) (λg=>by have :=(cX (dI E r) _ g).2;omega) n I L;have iD:=(aR.cL (S:=λk=>k=a\/(Value.slice j l.length m).ownBlock=some k) r).trans (aR.cL y);have U:=bB (bB M r) y;have bI:(Value.slice j l.length m).ownBlock≠some a:=λg=>by exact iX E g M (by decide)
 have l9:=bI;have hz1:=r.size;have iN:=World.new_ne p (K a 2) s;have aur:a<p.heap.size:=by omega
 have dK:(0:Int)<=(n:Int):=by simp
 go_wp2_with fail
 go_region_with (first
  |(go_at_call 212;refine du.mono ?_;rintro g w2 ⟨v',rfl,F,X,lj⟩;have kz:=iD.trans (X.mono (λk hk=>.inr hk));have u:=(X.other a (aU U) l9).trans U;obtain⟨Y,cB,zH,aus,abm,qq⟩:=bz F;rw[show(l.take n++x::l.drop n).length=l.length+1 by simp;omega]at zH;subst zH;have c2':=(fh u).2.2.1;have j8:=cV u 2;have bo:=aU u))
 all_goals(go_wp2;go_ret)
 all_goals
  have UQ:(Value.slice Y (l.length+1) cB).ownBlock≠some a:=λg=>by exact iX F g u (by decide)
  refine⟨.slice Y (l.length+1) cB,rfl,Qf u,kd F UQ _,lj.mono ?_,kz.trans (aR.it _ (.inl rfl))⟩;exact cd r.size y.size
theorem Qh(k:Nat):∀u∈iM k,u.oneCell'=true:=by intro u a;simp[iM]at a;subst a;rfl
theorem UR{w:World}{g:Nat}(c:w.cell? (H g)=some (Z a)):∀j u,(iM a)[j]?=some u->w.cell? (K g j)=some u:=by
 intro j u b
 match j with
 |0=>simp[iM]at b;simp_all
 |j+1=>contradiction
theorem abn{w:World}{g:Nat}{t:TypeId}{f:Nat×Nat}(h:w.heap[g]?=some (.cells #[b] t f)):w.cell? (H g)=some b:=by simp[World.cell?,h]
theorem cW.kept{S w y z}(h:cW w a c e y z)(B:aR S w i)(C:∀k,S k->∃d t f,w.heap[k]?=some (.cells d t f)/\t≠174):cW i a c e y z:=by
 have n:∀(b:Nat) (j:Array MapEntry) (l:Nat),w.heap[b]?=some (.map j l)->i.heap[b]?=w.heap[b]?:=λb j l D=>B.other b (aU D) λu=>by obtain⟨d,t,f,o,_⟩:=C b u;rw[D]at o;cases o
 have r:∀v x,jX w v x->jX i v x:=λv x r=>by refine r.imp id ?_;rintro⟨b,j,l,g,m⟩;exact⟨b,j,l,g,m.hU (n b _ _ m.bb)⟩
 obtain⟨j,l,E⟩:=h.al;obtain⟨I,L,F⟩:=h.he;refine⟨?_,⟨j,l,E.hU (n _ _ _ E.bb)⟩,⟨I,L,F.hU (n _ _ _ F.bb)⟩,λp s=>⟨?_,λq M=>r _ _ ((h.hk p s).2 q M)⟩,λp s=>r _ _ (h.aO p s)⟩
 .rw[B.other a (aU h.ao) λu=> ?_]
  .exact h.ao
  obtain⟨d,t,f,o,N⟩:=C a u;exact N (cQ o h.ao)
 refine(h.hk p s).1.imp id ?_;rintro⟨b,j,l,g,m⟩;exact⟨b,j,l,g,m.hU (n b _ _ m.bb)⟩
theorem Qi {w:World} {sp su:Nat} (h:kP w a sp su b d c) (k:Nat) (g:k<=10000) (i:sp<=50) (p:su<=50):
  O 132 #[Z a,A k] w λe j=>e=ad (A ((k*sp-su:Nat):Int))/\J w j:=by
 obtain⟨q,r,l,n,eN⟩:=fh h;clear l n eN;have o:=Nat.mul_le_mul g i;obtain⟨m,f⟩:∃m:Nat,m=k*sp:=⟨_,rfl⟩;have s:(k:Int)*(sp:Int)=(m:Int):=by omega
 rw[<-f]at o⊢;clear f;go_enter func132,ntmps132;go_wp2_with fail
 go_region
 all_goals go_wp2
 all_goals go_ret
 all_goals
  refine⟨?_,(gb w)⟩;show Ending.returned (A (max 0 ((m:Int)-(su:Int))))=_;rw[show max (0:Int) ((m:Int)-(su:Int))=((m-su:Nat):Int) by omega]
theorem US (h:kP i e a c b d f) (k:Nat) (l:k<=10000) (m:1<=a) (n:a<=50) (o:c<=50):
  O 131 #[Z e,A k] i λg j=>g=ad (A (((c+k)/a:Nat):Int))/\J i j:=by
 obtain⟨p,q,r,s,eN⟩:=fh h;have t:¬((a:Int)=0):=by omega
 have u:¬(a=0):=by omega
 have v:(c+k)/a<=c+k:=SX _ _;go_enter func131,ntmps131;go_wp2_with fail
 go_region
 all_goals go_wp2
 all_goals go_ret
 all_goals
  refine⟨?_,(gb i)⟩;show Ending.returned (A (((c:Int)+(k:Int))/(a:Int)))=_;rw[show((c:Int)+(k:Int))/(a:Int)=(((c+k)/a:Nat):Int) by simp]
theorem UT{g:Nat}(d:o4 0 i (aa g a c) h)(b:Nat)(j:b<h.length):i.cell? (K g b)=some (Z (h[b])):=by
 have l:a=h.length:=by
  rcases d.2 with⟨e,_⟩|⟨m,n,o,e,_⟩
  .omega
  simp_all
 subst l;have :=jl (f:=iM) (k:=1) (λ_=>rfl) d rfl b j 0 (by omega);simpa[iM]using this
theorem abo{w:World}{g:Nat}{c a e u:Value}{t:TypeId}(h:w.heap[g]?=some (.cells #[b,d,c,a,e] t)):(w.setCell (K g 4) u).heap[g]?=some (.cells #[b,d,c,a,u] t):=by obtain⟨f,i⟩:=e8.1 h;simp[World.setCell,f,xR,i]
theorem akF{P:Program}(w:World)(t e b:TypeId)(z:Value)(d:P.underlying t=some (.slice e))(f:∀w,(zeroValue e).run P w=.ok z w)(a:Option Addr)(c:Nat):(Builtin.clear_ #[t] b #[.slice a 0 c]).run P w=.ok (.tuple #[]) w:=by cases a<;>simp[Builtin.clear_,xM d,f,Builtin.zeroCells,storeCells]
theorem UU(w:World):(zeroValue 101).run prog w=.ok (.pointer none) w:=by kernel_rfl
theorem akG {w:World} {sp su:Nat} (l:kP w a sp su d b e) (t:o4 0 w b h) (k:Nat) (hk:k<=9000) (hG:1<=sp) (Q:sp<=50) (R:su<=50) (L:Nat) (U:(su+k)/sp=L) (X:L+1=h.length) (gW:h[L]?=some c) {D:cZ} (Y:cW w c f j D.1 D.2):
  O 190 #[Z a,A k] w λi B=>∃p r s,i=ad (A ((L*sp-su:Nat):Int))/\kP B a sp su d b p/\cW B p r s D.1 D.2/\(w.heap.size<=p/\w.heap.size<=r/\w.heap.size<=s/\r≠s)/\aR (λk=>k=a) w B:=by
 have CZ:=ag (US l k (by omega) hG Q R);rw[U]at CZ;have hL1:L<=su+k:=by rw[<-U];exact SX _ _
 obtain⟨hLl,Me⟩:=Au.1 gW;obtain⟨n,m,rfl,kt,dM,aH⟩:=bz t;unfold maxLen at dM;obtain⟨g,rfl⟩:=aH L (by omega);have C:=UT t L (by omega);rw[Me]at C;have a1:=ag l;obtain⟨bw,bm,bq,ce,eN⟩:=fh l;clear bw bm bq eN aH;go_enter func190,ntmps190;go_wp2_with fail
 refine CZ.o.mono ?_;rintro i E ⟨rfl,q⟩;have d3:=ak q ce;have UV:=ak q C;have aJ:=ag q;have akH:=λlU cB ty=>akF (P:=prog) E 200 101 ty (.pointer none) underlying200 UU lU cB
 have hL0:(0:Int)<=(L:Int):=by simp
 have v:=X.symm;rw[v]at d3 kt;have vu:=ag v;have hLc:¬(m<L+1):=by omega
 have G9:g≠a:=λi=>by obtain⟨cur,hc⟩:=b0 t (g:=g) rfl;rw[i]at hc;exact absurd (cQ hc l) (by decide)
 have x:=bB l q;have ox:=cV x 3;have Mf:m≠L+1\/m=L+1:=by omega
 have fs:=ag (λW (aI:aR (λk=>k=a) w W)=>UD (Y.kept aI (λk i=>⟨_,_,_,i▸a1.o,by decide⟩)));have F:=ag (show aR (λk=>k=a) w (E.setCell (K a 3) (aa g (L+1) m)) from(aR.cL q).trans (aR.it _ rfl));rw[v]at x;have c7:=ag (Qg (u:=aa g (L+1) m) x);have aD:(E.setCell (K a 3) (aa g (L+1) m)).cell? (K g L)=some (Z c):=by
  simp only[World.cell?];rw[dE G9]
  assumption
 clear q X v ce C l t Y x;rcases Mf with Mf|rfl
 all_goals go_wp2_with (first
  |(go_at_call 213;refine(fs.o _ F.o).mono ?_;rintro i w3 ⟨⟨p,r,s,rfl,Bk,C0,EM,EN,EO⟩,I⟩;have C1:=ag Bk;have cj:=ag I;have y:=ag (aN C0 (aN EM (aN EN EO)));have z:=ag (bB c7.o I);have xb:=cV z.o 4;have eN:=(fh z.o).2.2.2.2;clear Bk I C0 EM EN EO))
 all_goals
  have hr:=ag (abo (u:=Z p) z.o);have vC:=ag (C1.o.kept (aR.it (S:=λk=>k=a) (w:=w3) (g:=a) (o:=4) (Z p) rfl) (λk i=>⟨_,_,_,i▸z.o,by decide⟩));have EB:=ag ((F.o.trans (aR.cL cj.o)).trans (aR.it (S:=λk=>k=a) (w:=w3) (g:=a) (o:=4) (Z p) rfl));have C2:=ag (Qi (su:=su) (sp:=sp) hr.o L (by omega) Q R);refine C2.o.mono ?_;rintro i w5 ⟨rfl,nU⟩;have M:=ag nU;clear nU;go_wp2;go_ret
  have N:=F.o.size;refine⟨p,r,s,rfl,?_,vC.o.ak M.o,⟨cd N y.o.1,cd N y.o.2.1,cd N y.o.2.2.1,y.o.2.2.2⟩,EB.o.trans (aR.cL M.o)⟩;have :=bB hr.o M.o;unfold kP;rw[vu.o];exact this
theorem akI{P:Program}(w:World)(t e d:TypeId)(z:Value)(f:P.underlying t=some (.slice e))(h:∀w,(zeroValue e).run P w=.ok z w)(j:z.cells= #[z])(k:z.oneCell'=true)(g o n c:Nat)(r:0<n)(a:Array Value)(b:TypeId)(l:w.heap[g]?=some (.cells a b))(s:o+n<=a.size):
  (Builtin.clear_ #[t] d #[.slice (some (K g o)) n c]).run P w=.ok (.tuple #[]) (w.setRow g (a.toList.take o++List.replicate n z++a.toList.drop (o+n)).toArray):=by
 have p:(Builtin.zeroCells z.cells n).toList=List.replicate n z:=by
  rw[j];simp[Builtin.zeroCells];apply Ea
  .simp
  intro i k u;simp[Nat.mod_one]
 have q:=run_storeCells_at P g o b (List.replicate n z) 0 a w l (by simp_all) (by simp_all);obtain⟨m,rfl⟩:∃m,n=m+1:=⟨n-1,by omega⟩;simp[Builtin.clear_,xM f,h,p,q]
theorem akJ {w:World} {sp su:Nat} (n:kP w a sp su d b e) (z:o4 0 w b h) (k:Nat) (I:k<=9000) (hG:1<=sp) (aj:sp<=50) (yk:su<=50) (L:Nat) (cE:(su+k)/sp=L) (hl:L+1<h.length) (gW:h[L]?=some c) {D:cZ} (aw:cW w c f j D.1 D.2):
  O 190 #[Z a,A k] w λi M=>∃g l r B C,b.ownBlock=some g/\i=ad (A ((L*sp-su:Nat):Int))/\kP M a sp su d (aa g (L+1) l) r/\o4 0 M (aa g (L+1) l) (h.take (L+1))/\cW M r B C D.1 D.2/\(w.heap.size<=r/\w.heap.size<=B/\w.heap.size<=C/\B≠C)/\aR (λk=>k=a\/b.ownBlock=some k) w M:=by
 have CZ:=ag (US n k (by omega) hG aj yk);rw[cE]at CZ;have hL1:L<=su+k:=by rw[<-cE];exact SX _ _
 obtain⟨hLl,Me⟩:=Au.1 gW;obtain⟨p,l,rfl,kt,dM,aH⟩:=bz z;unfold maxLen at dM;obtain⟨g,rfl⟩:=aH L (by omega);have Y:=UT z L (by omega);rw[Me]at Y;have a1:=ag n;obtain⟨bw,bm,bq,ce,eN⟩:=fh n;go_enter func190,ntmps190;go_wp2_with fail
 refine CZ.o.mono ?_;rintro i y ⟨rfl,v⟩;have d3:=ak v ce;have UV:=ak v Y;have aJ:=ag v;obtain⟨s,x⟩:=b0 z (g:=g) rfl;have E:g≠a:=λi=>by rw[i]at x;exact absurd (cQ x n) (by decide)
 obtain⟨jq,hct⟩:s.size=l/\s.toList.take h.length=h.flatMap iM:=by
  rcases z.2 with⟨i,_⟩|⟨g',N,hE,i,_,iH,_,_,jJ,EP⟩
  .simp at i
  simp only[oO,po,tU,sb,qJ]at i;obtain⟨rfl,rfl⟩:=i;rw[x]at iH;cases iH;exact⟨by omega,by simpa using EP⟩
 have P:=(v.block g (aU x)).trans x;obtain⟨m,F⟩:∃m,m=(s.toList.take (L+1)++List.replicate (h.length-(L+1)) (Value.pointer none)++s.toList.drop (L+1+(h.length-(L+1)))).toArray:=⟨_,rfl⟩;obtain⟨q,t⟩:∃q,q=y.setRow g m:=⟨_,rfl⟩;have akH:∀N ty,(Builtin.clear_ #[200] ty #[.slice (some (K g (L+1))) (h.length-(L+1)) N]).run prog y=.ok (.tuple #[]) q:=λN ty=>by rw[t,F];exact akI y 200 101 ty (.pointer none) underlying200 UU rfl rfl g (L+1) (h.length-(L+1)) N (by omega) s 101 P (by omega)
 have UW:q.heap[g]?=some (.cells m 101):=by rw[t];exact OG _ _ s m _ _ P
 have Q:∀k,k≠g->q.heap[k]?=y.heap[k]?:=λk I=>by rw[t];exact SU _ _ k m I
 have hAs:m.size=l:=by rw[F];simp;omega
 have hAt:m.toList.take (L+1)=(h.take (L+1)).flatMap iM:=by
  have av:s.toList.take (L+1)=(h.take (L+1)).flatMap iM:=by
   have cR:h.flatMap iM=(h.take (L+1)).flatMap iM++(h.drop (L+1)).flatMap iM:=by rw[<-oL,za]
   have aC:((h.take (L+1)).flatMap iM).length=L+1:=by rw[rB iM 1 (λ_=>rfl),gU];omega
   have :=kq (List.take (L+1)) hct;rw[Gb,cR]at this;rw[show min (L+1) h.length=L+1 by omega]at this;rw[this];rw[Ay (by rw[aC];exact bW _),kp (by rw[aC];exact bW _)]
  rw[F];simp only[kr];rw[Ay (by rw[gU];simp;omega),Gb,Nat.min_self];exact av
 have xc:aR (λk=>k=a\/(aa g h.length l).ownBlock=some k) w q:=by refine(aR.cL v).trans ⟨by rw[t];rfl,by rw[t];rfl,by rw[t];rfl,by rw[t,SV];exact bW _,λk _ I=>Q k λi=>I (.inr (by rw[i];rfl))⟩
 have d3':q.cell? (K a 3)=some (aa g h.length l):=by rw[wo (w:=y) (Q a (eE E))];exact d3
 have dL':q.cell? (K g L)=some (Z c):=by
  have :m[L]?=some (Z c):=by
   have h1:(m.toList.take (L+1))[L]?=s.toList[L]?:=by rw[F];simp only[kr];rw[Ay (by rw[gU];simp;omega),Gb,Nat.min_self,wq,bn (by omega)]
   have h2:(m.toList.take (L+1))[L]?=m[L]?:=by rw[wq,bn (by omega)];simp
   rw[<-h2,h1];have :=UV;rw[zb y g L s _ _ P]at this;simpa using this
  rw[zb q g L m _ _ UW];exact this
 have hL0:(0:Int)<=(L:Int):=kG _;have Qj:(L:Int)+1<=(h.length:Int):=by omega
 have Mf:¬(l=L+1):=by omega
 have EL:q.heap[a]?=_:=(Q a (eE E)).trans (bB n v);have ox:=cV EL 3;have fs:=ag (λW (aI:aR (λk=>k=a\/(aa g h.length l).ownBlock=some k) w W)=>UD (aw.kept aI (λk i=>by
  rcases i with rfl|i
  .exact⟨_,_,_,a1.o,by decide⟩
  cases i;exact⟨_,_,_,x,by decide⟩)))
 have iD:=ag (show aR (λk=>k=a\/(aa g h.length l).ownBlock=some k) w (q.setCell (K a 3) (aa g (L+1) l)) from xc.trans (aR.it _ (.inl rfl)));have c7:=ag (Qg (u:=aa g (L+1) l) EL);have ev:=ag (show(q.setCell (K a 3) (aa g (L+1) l)).heap[g]?=some (.cells m 101) by rw[dE E];exact UW);have aD:(q.setCell (K a 3) (aa g (L+1) l)).cell? (K g L)=some (Z c):=by rw[wo (w:=q) (dE E)];exact dL'
 have Ju:=ag (aN hAs hAt);have HGH:=ag E;have akK:L+1<=l:=by omega
 clear v ce Y n z aw EL t F hAs hAt xc Q UW P jq hct x UV;go_wp2_with (first
  |(go_at_call 213;refine(fs.o _ iD.o).mono ?_;rintro i w3 ⟨⟨r,B,C,rfl,Bk,C0,EM,EN,EO⟩,bu⟩;have C1:=ag Bk;have cj:=ag bu;have R:=ag (aN C0 (aN EM (aN EN EO)));have U:=ag (bB c7.o bu);have xb:=cV U.o 4;have eN:=(fh U.o).2.2.2.2;clear Bk bu C0 EM EN EO))
 have o3:=ag (bB ev.o cj.o);have hr:=ag (abo (u:=Z r) U.o);have vC:=ag (C1.o.kept (aR.it (S:=λk=>k=a\/(aa g h.length l).ownBlock=some k) (w:=w3) (g:=a) (o:=4) (Z r) (.inl rfl)) (λk i=>by
  rcases i with rfl|i
  .exact⟨_,_,_,U.o,by decide⟩
  cases i;exact⟨_,_,_,o3.o,by decide⟩))
 have EB:=ag ((iD.o.trans (aR.cL cj.o)).trans (aR.it (S:=λk=>k=a\/(aa g h.length l).ownBlock=some k) (w:=w3) (g:=a) (o:=4) (Z r) (.inl rfl)));have C2:=ag (Qi (su:=su) (sp:=sp) hr.o L (by omega) aj yk);refine C2.o.mono ?_;rintro i w5 ⟨rfl,nU⟩;have X:=ag nU;clear nU;go_wp2;go_ret
 have cw:=iD.o.size;have UX:=bB (w:=w3.setCell (K a 4) (Z r)) ((dE HGH.o).trans o3.o) X.o;refine⟨g,l,r,B,C,rfl,rfl,bB hr.o X.o,?_,vC.o.ak X.o,⟨cd cw R.o.1,cd cw R.o.2.1,cd cw R.o.2.2.1,R.o.2.2.2⟩,EB.o.trans (aR.cL X.o)⟩;have hlen:(h.take (L+1)).length=L+1:=by rw[gU];omega
 unfold o4;rw[hlen];exact⟨by rw[rB iM 1 (λ_=>rfl),hlen],.inr ⟨g,l,m,rfl,b6 _,UX,akK,by unfold maxLen;omega,by rw[Ju.o.1];omega,by rw[xO];exact Ju.o.2⟩⟩
end
section
open Go.RowKit Tryz
variable {a:List bA}{b:bA}{c h:PId}{d:cZ}{e:bT}{f l:ByteArray}{i:fr}{j:List (PId×eG)}{k:Nat}
theorem key_inj(h:f.toList=l.toList):f=l:=by rw[<-YL,beq_toListBytes,h];simp
def bM (R:List bA) (x:PId):Option bA:=R.find? (kK x)
def oz (h:dr):PId×eP:=(h.dt,valOf h)
theorem Jv:kK c b=true↔b.id=c:=by unfold kK;rw[Gd]
theorem UY(h:bM a c=some b):b.id=c:=Jv.1 (IA h)
theorem akL(h:bM a c=some b):b∈a:=D9 h
theorem je {κ ν:Type} [DecidableEq κ] (x y:κ) (v:ν) (m:List (κ×ν)):bV y (dj x v m)=if y=x then some v else bV y m:=by
 induction m with
 |nil=>by_cases h:y=x<;>simp[dj,bV,h]
 |cons p m ih=>
  unfold dj;by_cases a:x=p.1
  .rw[bn a];by_cases h:y=x
   .simp[bV,h]
   simp[bV,h,a▸h]
  rw[a7 a];by_cases b:y=p.1
  .have h:¬y=x:=λe=>a (e▸b)
   simp[bV,b,eE a]
  have c:bV y (p::dj x v m)=bV y (dj x v m):=by simp[bV,b]
  have d:bV y (p::m)=bV y m:=by simp[bV,b]
  simp_all
theorem akM {κ ν:Type} [DecidableEq κ] {x:κ} {m:List (κ×ν)} (h:x∉m.map (·.1)):bV x m=none:=by
 unfold bV;rw[Option.map_eq_none_iff,D6];intro p a;simp;intro e
 simp_all
theorem Ha {κ ν:Type} [DecidableEq κ] {x:κ} {v:ν}:∀{m:List (κ×ν)},(m.map (·.1)).Nodup->(x,v)∈m->bV x m=some v
 |[],_,h=>by cases h
 |p::m,a,h=>by
  simp only[ip,oN]at a;rcases ft.1 h with h|h
  .subst h;simp[bV]
  have b:¬x=p.1:=λe=>a.1 (e▸dF.2 ⟨_,h,rfl⟩)
  have :=Ha a.2 h;simpa[bV,b]using this
theorem akN {κ ν:Type} [DecidableEq κ] {x:κ} {m a:List (κ×ν)} (b:m.Perm a) (c:(a.map (·.1)).Nodup):bV x m=bV x a:=by
 cases h:bV x a with
 |some v=>exact Ha ((b.map (·.1)).nodup_iff.2 c) (b.mem_iff.2 (gZ h))
 |none=>
  cases d:bV x m with
  |none=>rfl
  |some v=>rw[Ha c (b.mem_iff.1 (gZ d))]at h;cases h
theorem abp {κ ν:Type} [DecidableEq κ] {x:κ} {v:ν}:∀{m:List (κ×ν)},x∉m.map (·.1)->dj x v m=m++[(x,v)]
 |[],_=>rfl
 |p::m,h=>by simp only[ip,ft,K6]at h;unfold dj;rw[a7 h.1,abp h.2];rfl
theorem akO {α:Type} {p q:α->Bool} {f:α->α} {l:List α} {k:Nat} (b:l.findIdx? p=some k) (e:∀o,q (f o)=q o):(l.modify k f).find? q=match l.find? q with |none=>none|some o=>if l.findIdx? q=some k then some (f o) else some o:=by
 induction l generalizing k with
 |nil=>simp at b
 |cons a l ih=>
  rw[YZ]at b;by_cases c:p a=true
  .rw[bn c]at b;cases b;simp only[Y0,Ix,e,YZ];cases g:q a
   .simp;cases l.find? q<;>simp
   simp
  rw[a7 c]at b;cases d:l.findIdx? p with
  |none=>rw[d]at b;cases b
  |some j=>
   rw[d]at b;cases b;simp only[Y1,Ix,YZ];cases g:q a
   .simp_all
   simp
theorem Mg {α:Type} {p:α->Bool} {l:List α}:di p l<0↔l.find? p=none:=by
 unfold di;rw[D6];cases h:l.findIdx? p with
 |none=>rw[Oz]at h;simpa using h
 |some k=>
  simp only;constructor
  .omega
  intro a;obtain⟨b,c,_⟩:=F4.1 h
  simp_all
theorem Qk {α:Type} {p:α->Bool} {l:List α} (h:¬di p l<0):l.findIdx? p=some (di p l).toNat:=by
 unfold di at *;cases a:l.findIdx? p with
 |none=>rw[a]at h;simp at h
 |some k=>simp
theorem akP {α:Type} {p q:α->Bool} {l:List α} {o:α} (a:l.findIdx? p=some k) (b:l.findIdx? q=some k) (e:l.find? p=some o):q o=true:=by
 obtain⟨c,d,f⟩:=F4.1 a;obtain⟨_,g,_⟩:=F4.1 b;have :l.find? p=some l[k]:=by rw[OE];exact⟨d,k,c,rfl,λj h=>by simp_all⟩
 simp_all
theorem akQ(p:bT)(o:bA):(hJ p o).id=o.id:=by unfold hJ;split <;>split <;>rfl
theorem akR(p:bT)(y:PId)(o:bA):kK y (hJ p o)=kK y o:=by unfold kK;rw[akQ]
theorem EQ(g:e.aM≠1)(y:PId):bM (cC a e) y=if y=e.eT then(bM a y).map (hJ e) else bM a y:=by
 unfold cC;rw[a7 g];by_cases c:di (kK e.eT) a<0
 .rw[bn c];split
  .rename_i b;subst b;unfold bM;rw[Mg.1 c];rfl
  rfl
 rw[a7 c];have d:=Qk c;unfold bM;rw[akO d (akR e y)];by_cases b:y=e.eT
 .subst b;rw[bn rfl];cases a.find? (kK e.eT) with
  |none=>rfl
  |some o=>simp[d]
 rw[a7 b];cases f:a.find? (kK y) with
 |none=>rfl
 |some o=>simp only;rw[a7];intro h;exact b ((Jv.1 (IA f)).symm.trans (Jv.1 (akP h d f)))
theorem Bl(b:e.aM=1)(y:PId):bM (cC a e) y=match bM a y with |some o=>some o|none=>if y=e.id then some ⟨e.id,e.aS,[]⟩ else none:=by
 unfold cC bM;rw[bn b,List.find?_append];cases a.find? (kK y) with
 |some o=>rfl
 |none=>
  by_cases h:y=e.id
  .subst h;simp[kK,fv]
  have :kK y ⟨e.id,e.aS,[]⟩=false:=by
   cases c:kK y ⟨e.id,e.aS,[]⟩
   .rfl
   exact absurd (Jv.1 c).symm h
  simp_all
theorem q4{key:ByteArray}{x:PId}{s:cK}:gA key x s=true↔s.key=key/\s.id=x:=by unfold gA;rw[YW,Gd,OH];exact⟨λh=>⟨key_inj h.1,h.2⟩,λh=>⟨by rw[h.1],h.2⟩⟩
def ts (key:ByteArray) (x:PId) (old:List PId) (aM:Int) (y:dr) (s:cK):cK:=if gA key x s then⟨s.key,s.id,lA old s.aj aM y⟩ else s
theorem Ql {l:List cK} {o:Bool} {key:ByteArray} {x:PId} {old:List PId} {aM:Int} {y:dr} (e:l.Pairwise λa b=>¬(a.key=b.key/\a.id=b.id)) {s:cK} (p:s∈l) (h:gA key x s=true):mS l o key x old aM y=l.map (ts key x old aM y):=by
 unfold mS;have f:¬di (gA key x) l<0:=λq=>by
  rw[Mg,D6]at q
  simp_all
 rw[a7 f];have c:=Qk f;generalize(di (gA key x) l).toNat=k at c;clear f p h s
 induction l generalizing k with
 |nil=>simp at c
 |cons a l ih=>
  rw[s9]at e;rw[YZ]at c;by_cases d:gA key x a=true
  .rw[bn d]at c;cases c;simp only[Y0,ip];congr 1
   .unfold ts;simp_all
   symm
   refine(F8 (g:=id) λb r=> ?_).trans (Y2 l);show _=b;unfold ts;rw[a7];intro t;have m:=q4.1 d;have n:=q4.1 t;exact e.1 b r ⟨m.1.trans n.1.symm,m.2.trans n.2.symm⟩
  rw[a7 d]at c;cases i:l.findIdx? (gA key x) with
  |none=>rw[i]at c;cases c
  |some j=>rw[i]at c;cases c;simp only[Y1,ip];rw[ih e.2 j i];congr 1;unfold ts;rw[a7 d]
theorem UZ{l:List cK}{key:ByteArray}{x:PId}{old:List PId}{aM:Int}{y:dr}(h:∀s∈l,gA key x s=false):mS l false key x old aM y=l++[⟨key,(0,0),lA old [] aM y⟩]:=by unfold mS;rw[bn (Mg.2 (D6.2 λs a=>by simp_all))];rfl
theorem Qm{key:ByteArray}{x:PId}{old:List PId}{aM:Int}{y:dr}(s:cK):(ts key x old aM y s).id=s.id:=by unfold ts;split <;>rfl
theorem Qn{key:ByteArray}{x:PId}{old:List PId}{aM:Int}{y:dr}(s:cK):(ts key x old aM y s).key=s.key:=by unfold ts;split <;>rfl
structure Bm (bk:List (PId×eG)) (x:PId) (o:bA) (bg:fr):Prop where
 aS:bg.aS=o.aS
 keys:o.aS=false->∀s∈o.ss,s.key≠⟨#[]⟩/\s.id=(0,0)
 Jw:o.aS=false->(o.ss.map cK.key).Nodup
 Jx:o.aS=false->∀key,((bV key bg.ks).elim [] tk.aK).Perm ((ju o key (0,0)).map oz)
 sG:o.aS=true->∀s∈o.ss,s.key=⟨#[]⟩/\s.id≠(0,0)/\∃e,bV s.id bk=some e/\e.aS=x/\e.aK.Perm (s.aj.map oz)
 Hb:o.aS=true->(o.ss.map cK.id).Nodup
 ER:o.aS=true->l0 bk bg.first (o.ss.map cK.id)
structure fO (R:List bA) (D:cZ):Prop where
 br:∀x o,bM R x=some o->∃bg,bV x D.1=some bg/\Bm D.2 x o bg
 fI:∀x,bM R x=none->bV x D.1=none
 el:∀y e,bV y D.2=some e->∃o,bM R e.aS=some o/\o.aS=true/\y∈o.ss.map cK.id
theorem fO.root:fO dD jK:=by
 refine⟨λx o h=> ?_,λx h=> ?_,λy e h=> ?_⟩
 .have a:=UY h;unfold bM dD at h;simp only[Ix,Y3]at h;split at h
  .cases h;simp at a;subst a;exact⟨⟨false,none,[],(0,0)⟩,by rfl,rfl,λ_ s b=>(by simp at b),λ_=>(by simp),λ_ c=>(by rfl),λh=>(by cases h),λh=>(by cases h),λh=>(by cases h)⟩
  cases h
 .unfold bM dD at h;simp only[Ix,Y3]at h;split at h
  .cases h
  rename_i a
  have :¬x=(0,0):=λe=>by subst e;contradiction
  simp[jK,bV,this]
 contradiction
theorem l0.put{b:List (PId×eG)}{y:PId}{e:eG}:∀{x:PId} {L:List PId},l0 b x L->y∉L->l0 (dj y e b) x L
 |_,[],h,_=>h
 |_,z::L,⟨c,d,f,g,i⟩,a=>by simp only[ft,K6]at a;exact⟨c,d,f,by rw[je,a7 (eE a.1)];exact g,i.put a.2⟩
theorem l0.same{a:List (PId×eG)}{y:PId}{e e':eG}(b:bV y a=some e)(c:e'.next=e.next):∀{x:PId} {L:List PId},l0 a x L->l0 (dj y e' a) x L
 |_,[],h=>h
 |_,z::L,⟨f,g,k,d,i⟩=>by
  by_cases j:z=y
  .subst j;rw[b]at d;cases d;exact⟨f,g,e',by rw[je,bn rfl],by rw[c];exact i.same b c⟩
  exact⟨f,g,k,by rw[je,a7 j];exact d,i.same b c⟩
theorem l0.ins{j:List (PId×eG)}{b i x:PId}{e:eG}(n:bV b j=some e)(o:i≠(0,0))(p:b≠i):∀{d a:List PId} {f:PId},l0 j f (d++b::a)->i∉d++b::a->(d++b::a).Nodup->l0 (dj b {e with next :=i} (dj i ⟨x,e.next,none,[]⟩ j)) f (d++b::i::a)
 |[],a,f,⟨k,l,q,h,m⟩,c,g=>by rw[n]at h;cases h;simp only[sZ,ft,K6]at c;simp only[sZ,oN]at g;refine⟨k,l,{e with next :=i},by rw[je,bn rfl],rfl,o,⟨x,e.next,none,[]⟩,by rw[je,a7 (eE p),je,bn rfl],?_⟩;exact(m.put c.2).put g.1
 |z::d,a,f,⟨k,l,q,h,m⟩,c,g=>by
  simp only[p5,ft,K6]at c;simp only[p5,oN]at g;have r:z≠b:=by simp_all
  exact⟨k,l,q,by rw[je,a7 r,je,a7 (eE c.1)];exact h,m.ins n o p c.2 g.2⟩
structure Fit (R:List bA) (p:bT):Prop where
 aM:p.aM=1\/p.aM=2\/p.aM=3\/p.aM=4
 make:p.aM=1->bM R p.id=none
 lay:p.aM=2->p.id≠(0,0)/\(∀x o,bM R x=some o->p.id∉o.ss.map cK.id)/\∃o,bM R p.eT=some o/\o.aS=true/\(p.ik=(0,0)\/p.ik∈o.ss.map cK.id)
 val:p.aM=3\/p.aM=4->∃o,bM R p.eT=some o/\((o.aS=false/\p.key≠⟨#[]⟩/\p.hx=(0,0))\/(o.aS=true/\p.key=⟨#[]⟩/\p.hx∈o.ss.map cK.id))/\∀h∈ju o p.key p.hx,h.dt≠p.id
 obj:p.aM=3->∃o,bM R p.obj=some o
def Mh (p:bT):mY:=
 if p.aM=1 then .inl p.aS else if p.aM=2 then .inr (.inl (p.eT,p.ik)) else if p.aM=3 then .inr (.inr (.inl (p.eT,p.key,p.hx,(p.kW,p.obj),p.old))) else .inr (.inr (.inr (p.eT,p.key,p.hx,p.old)))
def C3 (p:bT) (n:Int):pC:=⟨p.id,n,Mh p⟩
theorem Bm.U0{a}(h:Bm a c b i)(f:b.aS=true->∀s∈b.ss,bV s.id j=bV s.id a)(g:b.aS=true->l0 j i.first (b.ss.map cK.id)):Bm j c b i:=
 ⟨h.aS,h.keys,h.Jw,h.Jx,λd s e=>by rw[f d s e];exact h.sG d s e,h.Hb,g⟩
theorem fO.make(h:fO a d)(g:e.aM=1)(q:bM a e.id=none):fO (cC a e) (dj e.id ⟨e.aS,none,[],(0,0)⟩ d.1,d.2):=by
 refine⟨λx o c=> ?_,λx c=> ?_,λy b j=> ?_⟩
 .rw[Bl g]at c;rw[je];cases f:bM a x with
  |some k=>
   rw[f]at c;cases c;have l:¬x=e.id:=λb=>by simp_all
   rw[a7 l];exact h.br x o f
  |none=>
   rw[f]at c;simp only at c;split at c
   .rename_i b
    cases c;rw[bn b];exact⟨_,rfl,rfl,λ_ s i=>(by cases i),λ_=>IB,λ_ key=>(by rfl),λ_ s i=>(by cases i),λ_=>IB,λ_=>rfl⟩
   cases c
 .rw[Bl g]at c;rw[je];cases f:bM a x with
  |some k=>rw[f]at c;cases c
  |none=>
   rw[f]at c;simp only at c;split at c
   .cases c
   rename_i b
   rw[a7 b];exact h.fI x f
 obtain⟨o,m,n,p⟩:=h.el y b j;exact⟨o,by rw[Bl g,m],n,p⟩
theorem fO.elem(f:fO a d)(i:bM a h=some b)(j:b.aS=true)(k:c∈b.ss.map cK.id):∃e s,bV c d.2=some e/\e.aS=h/\s∈b.ss/\s.id=c/\s.key=⟨#[]⟩/\c≠(0,0)/\e.aK.Perm (s.aj.map oz):=by obtain⟨r,_,l⟩:=f.br h b i;obtain⟨s,g,rfl⟩:=dF.1 k;obtain⟨m,n,e,o,p,q⟩:=l.sG j s g;exact⟨e,s,o,p,g,rfl,m,n,q⟩
theorem fO.one(b:fO a d){o o':bA}(f:bM a c=some o)(g:o.aS=true)(i:bM a h=some o')(j:o'.aS=true){y:PId}(k:y∈o.ss.map cK.id)(l:y∈o'.ss.map cK.id):c=h:=by
 obtain⟨e,_,m,n,_⟩:=b.elem f g k;obtain⟨p,_,q,r,_⟩:=b.elem i j l
 simp_all
theorem fO.akS(h:fO a d)(b:∀x o,bM a x=some o->c∉o.ss.map cK.id):bV c d.2=none:=by
 cases f:bV c d.2 with
 |none=>rfl
 |some e=>obtain⟨o,g,_,i⟩:=h.el c e f;exact absurd i (b _ o g)
theorem akT{l:List cK}{i:PId}(f:l.findIdx? (gA ⟨#[]⟩ c)=some k):∃a b,l.map cK.id=a++c::b/\(te l (k+1) (qK ⟨#[]⟩ i)).map cK.id=a++c::i::b:=by
 obtain⟨g,h,_⟩:=F4.1 f;have ag:=(q4.1 h).2;refine⟨(l.take k).map cK.id,(l.drop (k+1)).map cK.id,?_,?_⟩
 .have e:l=l.take k++l[k]::l.drop (k+1):=by simp
  have d:=kq (List.map cK.id) e;rw[ga,ip,ag]at d;exact d
 unfold te;rw[lx g,ga,ga,ip,ip,uV,ag,kr];rfl
theorem fO.lay{R}(h:fO R d){p:bT}(hk:p.aM=2)(N:p.id≠(0,0))(P:∀x o,bM R x=some o->p.id∉o.ss.map cK.id){o:bA}(D:bM R p.eT=some o)(f:o.aS=true)(ah:p.ik=(0,0)\/p.ik∈o.ss.map cK.id):
  fO (cC R p) (nX d p.eT p.ik p.id):=by
 obtain⟨Q,ci,t⟩:=h.br _ o D;have auv:=t.aS.trans f;have dJ:=h.akS P;have dK:p.aM≠1:=by omega
 have E:∀y,bM (cC R p) y=if y=p.eT then(bM R y).map (hJ p) else bM R y:=λy=>EQ dK y
 have Hd:hJ p o=⟨o.id,o.aS,sm o.ss p.ik p.id⟩:=by unfold hJ;simp_all
 have v:bM (cC R p) p.eT=some ⟨o.id,o.aS,sm o.ss p.ik p.id⟩:=by simp_all
 have ag:=P _ o D;unfold nX;rw[ci];dsimp only;rw[a7 (by simp_all)];by_cases F:p.ik=(0,0)
 .rw[bn F];have w:sm o.ss p.ik p.id=qK ⟨#[]⟩ p.id::o.ss:=by unfold sm;rw[F,bn (by rfl)];rfl
  have eS:∀y,y≠p.id->bV y (dj p.id ⟨p.eT,Q.first,none,[]⟩ d.2)=bV y d.2:=λy B=>by rw[je,a7 B]
  refine⟨λx u c=> ?_,λx c=> ?_,λy e B=> ?_⟩
  .by_cases j:x=p.eT
   .subst j;rw[v,w]at c;cases c;refine⟨{Q with first :=p.id},by rw[je,bn rfl],t.aS,λg=> ?_,λg=> ?_,λg=> ?_,λ_ s b=> ?_,λ_=> ?_,λ_=> ?_⟩
    .rw[f]at g;cases g
    .rw[f]at g;cases g
    .rw[f]at g;cases g
    .rcases ft.1 b with rfl|b
     .exact⟨rfl,N,_,by show bV p.id _=_;rw[je,bn rfl],rfl,by simp[qK]⟩
     obtain⟨l,n,e,m,a8⟩:=t.sG f s b;exact⟨l,n,e,by rw[eS _ (λe=>ag (e▸dF.2 ⟨s,b,rfl⟩))];exact m,a8⟩
    .exact oN.2 ⟨ag,t.Hb f⟩
    show l0 _ p.id (p.id::o.ss.map cK.id);exact⟨rfl,N,_,by rw[je,bn rfl],(t.ER f).put ag⟩
   rw[E,a7 j]at c;obtain⟨xd,l,n⟩:=h.br x u c;have I:=P x u c;refine⟨xd,by rw[je,a7 j];exact l,n.U0 (λ_ s b=>eS _ (λe=>I (e▸dF.2 ⟨s,b,rfl⟩))) (λz=>(n.ER z).put I)⟩
  .have j:x≠p.eT:=λe=>by subst e;rw[v]at c;cases c
   rw[E,a7 j]at c;rw[je,a7 j];exact h.fI x c
  have r:=B;by_cases L:y=p.id
  .subst L;rw[je,bn rfl]at r;cases r;exact⟨_,v,f,by rw[w];simp[qK]⟩
  rw[eS y L]at r;obtain⟨u,l,n,m⟩:=h.el y e r;by_cases j:e.aS=p.eT
  .rw[j]at l⊢;rw[D]at l;cases l;exact⟨_,v,f,by rw[w];simp;exact .inr (by simpa using m)⟩
  exact⟨u,by rw[E,a7 j];exact l,n,m⟩
 rw[a7 F];have Bn:=ah.resolve_left F;obtain⟨e,s0,S,eZ,qg,He,U2,_,_⟩:=h.elem D f Bn;rw[S];dsimp only;rw[bn eZ];have Ei:p.ik≠p.id:=λq=>ag (q▸Bn)
 have wz:¬di (gA ⟨#[]⟩ p.ik) o.ss<0:=λg=>by rw[Mg,D6]at g;exact g s0 qg (q4.2 ⟨U2,He⟩)
 have w:sm o.ss p.ik p.id=te o.ss ((di (gA ⟨#[]⟩ p.ik) o.ss).toNat+1) (qK ⟨#[]⟩ p.id):=by unfold sm;have :fv p.ik.1 p.ik.2 0 0=false:=Ch.2 F;rw[this,a7 (by simp),a7 wz]
 have Mj:=Qk wz;generalize(di (gA ⟨#[]⟩ p.ik) o.ss).toNat=k at w Mj;obtain⟨U,W,cE,X⟩:=akT (i:=p.id) Mj;have hp:∀s,s∈te o.ss (k+1) (qK ⟨#[]⟩ p.id)->s∈o.ss\/s=qK ⟨#[]⟩ p.id:=by
  intro s b;unfold te at b;rw[dZ,ft]at b;rcases b with b|b|b
  .exact .inl (mo b)
  .exact .inr b
  exact .inl (tS b)
 have k1:∀y,y≠p.id->∀q,bV y d.2=some q->∃CC,bV y (dj p.ik {e with next :=p.id} (dj p.id ⟨p.eT,e.next,none,[]⟩ d.2))=some CC/\CC.aS=q.aS/\CC.aK=q.aK:=by
  intro y B q jN;rw[je];by_cases C:y=p.ik
  .rw[bn C];subst C;rw[S]at jN;cases jN;exact⟨_,rfl,rfl,rfl⟩
  rw[a7 C,je,a7 B];exact⟨q,jN,rfl,rfl⟩
 have pz:l0 (dj p.ik {e with next :=p.id} (dj p.id ⟨p.eT,e.next,none,[]⟩ d.2)) Q.first (U++p.ik::p.id::W):=by have :=t.ER f;have M:=t.Hb f;rw[cE]at this ag M;exact this.ins S N Ei ag M
 refine⟨λx u c=> ?_,λx c=> ?_,λy Y B=> ?_⟩
 .by_cases j:x=p.eT
  .subst j;rw[v,w]at c;cases c;refine⟨Q,ci,t.aS,λg=> ?_,λg=> ?_,λg=> ?_,λ_ s b=> ?_,λ_=> ?_,λ_=> ?_⟩
   .rw[f]at g;cases g
   .rw[f]at g;cases g
   .rw[f]at g;cases g
   .rcases hp s b with b|rfl
    .obtain⟨l,n,Y,m,a8,cP⟩:=t.sG f s b;obtain⟨aD,gi,hy,xe⟩:=k1 s.id (λe=>ag (e▸dF.2 ⟨s,b,rfl⟩)) Y m;exact⟨l,n,aD,gi,hy.trans a8,xe▸cP⟩
    exact⟨rfl,N,⟨p.eT,e.next,none,[]⟩,by show bV p.id _=_;rw[je,a7 (eE Ei),je,bn rfl],rfl,by simp[qK]⟩
   .rw[X];have M:=t.Hb f;rw[cE]at M ag;have :(U++p.ik::p.id::W).Perm (p.id::(U++p.ik::W)):=by have :=af4 (a:=p.id) (l₁:=U++[p.ik]) (l₂:=W);simpa using this
    rw[this.nodup_iff];exact oN.2 ⟨ag,M⟩
   rw[X];exact pz
  rw[E,a7 j]at c;obtain⟨xd,l,n⟩:=h.br x u c;have I:=P x u c;have zl:=λz hm=>j (h.one c z D f hm Bn)
  refine⟨xd,l,n.U0 (λz s b=> ?_) (λz=>((n.ER z).put I).put (zl z))⟩;have hm:s.id∈u.ss.map cK.id:=dF.2 ⟨s,b,rfl⟩;rw[je,a7 (λ(e:s.id=p.ik)=>zl z (e▸hm)),je,a7 (λ(e:s.id=p.id)=>I (e▸hm))]
 .have j:x≠p.eT:=λe=>by subst e;rw[v]at c;cases c
  rw[E,a7 j]at c;exact h.fI x c
 have r:=B;by_cases L:y=p.id
 .subst L;rw[je,a7 (eE Ei),je,bn rfl]at r;cases r;refine⟨_,v,f,?_⟩;rw[w];rw[X];simp
 have hold:∃q,bV y d.2=some q/\q.aS=Y.aS:=by
  rw[je]at r;by_cases C:y=p.ik
  .rw[bn C]at r;cases r;exact⟨e,C▸S,rfl⟩
  rw[a7 C,je,a7 L]at r;exact⟨Y,r,rfl⟩
 obtain⟨q,h0,h0'⟩:=hold;obtain⟨u,l,n,m⟩:=h.el y q h0;rw[<-h0'];by_cases j:q.aS=p.eT
 .rw[j]at l⊢;rw[D]at l;cases l;refine⟨_,v,f,?_⟩;rw[w];rw[X];rw[cE]at m;simp only[dZ,ft]at m⊢;rcases m with m|m|m
  .exact .inl m
  .exact .inr (.inl m)
  exact .inr (.inr (.inr m))
 exact⟨u,by rw[E,a7 j];exact l,n,m⟩
theorem akU(a:List PId)(b:List dr):tr a (b.map oz)=(unnamed a b).map oz:=by unfold tr unnamed;rw[afW];congr 1;apply List.filter_congr;intro h _;by_cases c:h.dt∈a<;>simp[oz,c]
theorem akV{a:List PId}{b:Int}{y:dr}(s:cK):gA f c (ts l h a b y s)=gA f c s:=by unfold gA;rw[Qm,Qn]
theorem akW {key:ByteArray} {x:PId} {old:List PId} {aM:Int} {y:dr} (l:b.ss.Pairwise λa c=>¬(a.key=c.key/\a.id=c.id)) (m:b.aS=false->x=(0,0)) (f:b.aS=true->∃s∈b.ss,gA key x s=true) (d:ByteArray) (e:PId):
  ju ⟨b.id,b.aS,mS b.ss b.aS key x old aM y⟩ d e=if d=key/\e=x then lA old (ju b key x) aM y else ju b d e:=by
 by_cases g:∃s∈b.ss,gA key x s=true
 .obtain⟨s,g,j⟩:=g;unfold ju;rw[Ql l g j,List.find?_map];have :(gA d e∘ts key x old aM y)=gA d e:=by funext s;exact akV s
  rw[this];cases i:b.ss.find? (gA d e) with
  |none=>simp only[YK];rw[a7];rintro⟨rfl,rfl⟩;rw[D6]at i;exact i s g j
  |some r=>
   simp only[qI];have t:=q4.1 (IA i);by_cases f:d=key/\e=x
   .obtain⟨rfl,rfl⟩:=f;rw[bn ⟨rfl,rfl⟩,i];unfold ts;rw[bn (IA i)]
   rw[a7 f];unfold ts;rw[a7];intro n;have u:=q4.1 n
   simp_all
 have k:b.aS=false:=by simp_all
 have o:=m k;subst o;have p:∀s∈b.ss,gA key (0,0) s=false:=by simp_all
 have q:ju b key (0,0)=[]:=by unfold ju;rw[D6.2 λs g=>by simp_all]
 rw[q,k,UZ p];unfold ju;rw[List.find?_append];by_cases f:d=key/\e=(0,0)
 .obtain⟨rfl,rfl⟩:=f;rw[D6.2 λs g=>by simp_all];simp[gA,fv]
 rw[a7 f];cases i:b.ss.find? (gA d e) with
 |some s=>rfl
 |none=>
  have :gA d e ⟨key,(0,0),lA old [] aM y⟩=false:=by
   cases h:gA d e ⟨key,(0,0),lA old [] aM y⟩
   .rfl
   have :=q4.1 h
   simp_all
  simp[this]
theorem Bm.ke {x:PId} (h:Bm j x b i):b.ss.Pairwise λa c=>¬(a.key=c.key/\a.id=c.id):=by
 cases f:b.aS
 .have :=ry.1 (h.Jw f);exact this.imp λd e=>d e.1
 have :=ry.1 (h.Hb f);exact this.imp λd e=>d e.2
theorem Bm.Mk(e:Bm j h b i){s:cK}(n:s∈b.ss)(o:gA f c s=true):ju b f c=s.aj:=by
 unfold ju;cases g:b.ss.find? (gA f c) with
 |none=>rw[D6]at g;exact absurd o (g s n)
 |some r=>
  have k:=q4.1 (IA g);have l:=q4.1 o;have :r=s:=by
   rcases mm.1 (D9 g) with⟨a,p,rfl⟩;rcases mm.1 n with⟨d,q,rfl⟩;rcases Nat.lt_trichotomy a d with m|m|m
   .exact absurd ⟨k.1.trans l.1.symm,k.2.trans l.2.symm⟩ (tT.1 e.ke a d p q m)
   .simp_all
   exact absurd ⟨l.1.trans k.1.symm,l.2.trans k.2.symm⟩ (tT.1 e.ke d a q p m)
  rw[this]
theorem fO.C5(h:fO a d)(n:bM a c=some b)(g:b.aS=false)(i:f≠⟨#[]⟩)(y:PId):mX d.1 d.2 c f y=true/\(fN d.1 d.2 c f y).aK.Perm ((ju b f (0,0)).map oz):=by
 obtain⟨o,j,k⟩:=h.br _ b n;have l:mX d.1 d.2 c f y=true:=by unfold mX o0;rw[a7 i,j];simp[k.aS,g]
 refine⟨l,?_⟩;have :=k.Jx g f;unfold fN;rw[bn l,a7 i,j];dsimp only;cases m:bV f o.ks with
 |none=>rw[m]at this;exact this
 |some e=>rw[m]at this;exact this
theorem fO.Jy(e:fO a d)(f:bM a h=some b)(i:b.aS=true)(j:c∈b.ss.map cK.id):mX d.1 d.2 h ⟨#[]⟩ c=true/\(fN d.1 d.2 h ⟨#[]⟩ c).aK.Perm ((ju b ⟨#[]⟩ c).map oz):=by
 obtain⟨p,s,k,q,l,m,n,_,r⟩:=e.elem f i j;obtain⟨t,u,o⟩:=e.br _ b f;have g:mX d.1 d.2 h ⟨#[]⟩ c=true:=by
  unfold mX
  simp_all
 refine⟨g,?_⟩;unfold fN;rw[bn g,bn rfl,k,o.Mk l (q4.2 ⟨n,m⟩)];omega
theorem fO.akX(h:fO a d)(hk:e.aM=3\/e.aM=4)(w:bM a e.eT=some b)(f:b.aS=false)(M:e.key≠⟨#[]⟩)(r:e.hx=(0,0))(R:bV e.eT d.1=some i)(S:(i.ks.map (·.1)).Nodup){v:Option Nat}{z:List (PId×eP)}{B:List (ByteArray×tk)}(U:B.Perm i.ks)(N:z.Perm ((lA e.old (ju b e.key e.hx) e.aM e.held).map oz)):
  fO (cC a e) (dj e.eT {i with gQ:=some k,ks:=dj e.key ⟨v,z⟩ B} d.1,d.2):=by
 obtain⟨P,Q,j⟩:=h.br _ b w;rw[R]at Q;cases Q;have W:e.aM≠1:=by omega
 have X:e.aM≠2:=by omega
 have t:∀y,bM (cC a e) y=if y=e.eT then(bM a y).map (hJ e) else bM a y:=λy=>EQ W y
 have Y:hJ e b=⟨b.id,b.aS,mS b.ss b.aS e.key e.hx e.old e.aM e.held⟩:=by unfold hJ;rw[a7 X,bn (by rw[f,LQ M])]
 have C:=t e.eT;rw[bn rfl,w,qI,Y]at C;refine⟨λx D l=> ?_,λx l=> ?_,λy c aG=> ?_⟩
 .by_cases m:x=e.eT
  .subst m;rw[C]at l;cases l;refine⟨{i with gQ:=some k,ks:=dj e.key ⟨v,z⟩ B},by rw[je,bn rfl],j.aS,λ_ s g=> ?_,λ_=> ?_,λ_ key=> ?_,λn=>absurd n (by simp[f]),λn=>absurd n (by simp[f]),λn=>absurd n (by simp[f])⟩
   .by_cases o:∃s∈b.ss,gA e.key e.hx s=true
    .obtain⟨s0,E,F⟩:=o;simp only[Ql j.ke E F]at g;obtain⟨s1,hG,rfl⟩:=dF.1 g;rw[Qm,Qn];exact j.keys f s1 hG
    have u:∀s∈b.ss,gA e.key e.hx s=false:=λs I=>by
     cases h:gA e.key e.hx s
     .rfl
     exact absurd ⟨s,I,h⟩ o
    simp only[f,UZ u]at g;rcases dZ.1 g with g|g
    .exact j.keys f s g
    simp at g;subst g;exact⟨M,rfl⟩
   .by_cases o:∃s∈b.ss,gA e.key e.hx s=true
    .obtain⟨s0,E,F⟩:=o;simp only[Ql j.ke E F];rw[rz];have :(cK.key∘ts e.key e.hx e.old e.aM e.held)=cK.key:=by funext s;exact Qn s
     rw[this];exact j.Jw f
    have u:∀s∈b.ss,gA e.key e.hx s=false:=λs I=>by
     cases h:gA e.key e.hx s
     .rfl
     exact absurd ⟨s,I,h⟩ o
    simp only[f,UZ u];rw[ga];have dJ:e.key∉b.ss.map cK.key:=λhm=>by obtain⟨s,g,he⟩:=dF.1 hm;have :=u s g;rw[q4.2 ⟨he,(j.keys f s g).2.trans r.symm⟩]at this;cases this
    exact((YS (l₁:=b.ss.map cK.key) (l₂:=[e.key])).nodup_iff).2 (oN.2 ⟨dJ,j.Jw f⟩)
   rw[akW (old:=e.old) (aM:=e.aM) (y:=e.held) (key:=e.key) (x:=e.hx) j.ke (λ_=>r) (λn=>by simp_all),je,r];by_cases L:key=e.key
   .subst L;rw[bn rfl,bn ⟨rfl,rfl⟩];rw[r]at N;exact N
   rw[a7 L,a7 (λn=>L n.1),akN U S];exact j.Jx f key
  rw[t,a7 m]at l;obtain⟨P,p,q⟩:=h.br x D l;exact⟨P,by rw[je,a7 m];exact p,q⟩
 .have m:x≠e.eT:=λc=>by subst c;rw[C]at l;cases l
  rw[t,a7 m]at l;rw[je,a7 m];exact h.fI x l
 obtain⟨D,p,q,ax⟩:=h.el y c aG;have m:c.aS≠e.eT:=λe'=>by rw[e',w]at p;cases p;rw[f]at q;cases q
 exact⟨D,by rw[t,a7 m];exact p,q,ax⟩
theorem fO.akY(h:fO a d)(hk:e.aM=3\/e.aM=4)(n:bM a e.eT=some b)(f:b.aS=true)(I:e.key=⟨#[]⟩)(B:e.hx∈b.ss.map cK.id){o:eG}(r:bV e.hx d.2=some o){v:Option Nat}{aK:List (PId×eP)}(L:aK.Perm ((lA e.old (ju b e.key e.hx) e.aM e.held).map oz)):
  fO (cC a e) (d.1,dj e.hx {o with v:=v,aK:=aK} d.2):=by
 obtain⟨S,U,k⟩:=h.br _ b n;have W:e.aM≠1:=by omega
 have dx:e.aM≠2:=by omega
 have t:∀y,bM (cC a e) y=if y=e.eT then(bM a y).map (hJ e) else bM a y:=λy=>EQ W y
 have X:hJ e b=⟨b.id,b.aS,mS b.ss b.aS e.key e.hx e.old e.aM e.held⟩:=by unfold hJ;simp_all
 have p:=t e.eT;rw[bn rfl,n,qI,X]at p;obtain⟨s0,M,Y⟩:=dF.1 B;rw[Ql k.ke M (q4.2 ⟨(k.sG f s0 M).1.trans I.symm,Y⟩)]at p;have C:(b.ss.map (ts e.key e.hx e.old e.aM e.held)).map cK.id=b.ss.map cK.id:=by rw[rz];congr 1;funext s;exact Qm s
 obtain⟨cR,_,N,abq,_⟩:=h.elem n f B;rw[r]at N;cases N;refine⟨λx u g=> ?_,λx g=> ?_,λy c aG=> ?_⟩
 .by_cases j:x=e.eT
  .subst j;rw[p]at g;cases g;refine⟨S,U,k.aS,λl=>absurd l (by simp[f]),λl=>absurd l (by simp[f]),λl=>absurd l (by simp[f]),λ_ s D=> ?_,λ_=> ?_,λ_=> ?_⟩
   .obtain⟨P,Q,rfl⟩:=dF.1 D;obtain⟨i,m,av,w,a8,cP⟩:=k.sG f P Q;rw[Qm,Qn];refine⟨i,m,?_⟩;rw[je];by_cases z:P.id=e.hx
    .rw[bn z];refine⟨_,rfl,abq,?_⟩;have R:=q4.2 ⟨i.trans I.symm,z⟩;unfold ts;rw[bn R];rw[k.Mk Q R]at L;exact L
    rw[a7 z];refine⟨av,w,a8,?_⟩;unfold ts;rw[a7 (λl=>z (q4.1 l).2)];exact cP
   .rw[C];exact k.Hb f
   rw[C];exact(k.ER f).same (e':={o with v:=v,aK:=aK}) r rfl
  rw[t,a7 j]at g;obtain⟨xd,i,m⟩:=h.br x u g;refine⟨xd,i,m.U0 (λE s D=> ?_) (λE=>(m.ER E).same (e':={o with v:=v,aK:=aK}) r rfl)⟩;have hm:s.id∈u.ss.map cK.id:=dF.2 ⟨s,D,rfl⟩;rw[je,a7 (λ(c:s.id=e.hx)=>j (h.one g E n f (c▸hm) B))]
 .have j:x≠e.eT:=λc=>by subst c;rw[p]at g;cases g
  rw[t,a7 j]at g;exact h.fI x g
 have hold:∃e',bV y d.2=some e'/\e'.aS=c.aS:=by
  have q:=aG;rw[je]at q;by_cases F:y=e.hx
  .rw[bn F]at q;cases q;exact⟨o,F▸r,rfl⟩
  rw[a7 F]at q;exact⟨c,q,rfl⟩
 obtain⟨e',h0,h0'⟩:=hold;obtain⟨u,i,m,w⟩:=h.el y e' h0;rw[<-h0'];by_cases j:e'.aS=e.eT
 .rw[j]at i⊢;rw[n]at i;cases i;exact⟨_,p,f,by rw[C];exact w⟩
 exact⟨u,by rw[t,a7 j];exact i,m,w⟩
theorem fO.step{w}(h:fO a d)(N:ha d){n:Int}(r:Fit a e)(c:pD d (C3 e n) w):fO (cC a e) w:=by
 unfold pD C3 Mh at c;have E:(e.aM=3\/e.aM=4)->∀{v:Option Nat} {j y:List (PId×eP)},j.Perm (tr e.old (fN d.1 d.2 e.eT e.key e.hx).aK)->y=(if e.aM=3 then dj e.id (e.kW,e.obj) j else j)->EF d e.eT e.key e.hx v y w->fO (cC a e) w:=by
  intro b v j y t P s;obtain⟨o,m,z,F⟩:=r.val b;have I:∀c:List dr,(fN d.1 d.2 e.eT e.key e.hx).aK.Perm (c.map oz)->(∀h∈c,h.dt≠e.id)->y.Perm ((lA e.old c e.aM e.held).map oz):=by
   intro c p B;have k:j.Perm ((unnamed e.old c).map oz):=by rw[<-akU];exact t.trans (p.filter _)
   unfold lA;rw[ga,P];by_cases q:e.aM=3
   .rw[bn q,bn q];have Q:e.id∉j.map (·.1):=λC=>by rw[(k.map (·.1)).mem_iff]at C;simp only[rz,dF,Function.comp]at C;obtain⟨x,R,S⟩:=C;exact B x (p4.1 R).1 S
    rw[abp Q];exact k.append_right _
   simp_all
  rcases z with⟨i,f,l⟩|⟨i,f,l⟩
  .rcases s with⟨D,_⟩|⟨_,bg,g,rL,L,U,rfl⟩
   .exact absurd D f
   have p:=(h.C5 m i f e.hx).2;rw[<-l]at p;exact h.akX b m i f l L (N.ks _ (gZ L)) U (I _ p F)
  rcases s with⟨_,el,W,rfl⟩|⟨D,_⟩
  .have p:=(h.Jy m i l).2;rw[<-f]at p;exact h.akY b m i f l W (I _ p F)
  exact absurd f D
 have M:(e.aM=3\/e.aM=4)->mX d.1 d.2 e.eT e.key e.hx=true:=by
  intro b;obtain⟨o,m,z,_⟩:=r.val b;rcases z with⟨i,f,l⟩|⟨i,f,l⟩
  .exact(h.C5 m i f e.hx).1
  rw[f];exact(h.Jy m i l).1
 rcases r.aM with b|b|b|b
 .simp only[b,hQ]at c;subst c;exact h.make b (r.make b)
 .have k:¬e.aM=1:=by omega
  simp only[k,b,hQ,fM]at c;obtain⟨u,q,o,X,Y,gi⟩:=r.lay b;simp at c;subst c;exact h.lay b u q X Y gi
 .have k:¬e.aM=1:=by omega
  have u:¬e.aM=2:=by omega
  simp only[k,u,b,hQ,fM,EH]at c;obtain⟨o',hS⟩:=r.obj b;obtain⟨xd,Bo,_⟩:=h.br _ o' hS;have B:Bg d e.eT e.key e.hx e.obj=true:=by unfold Bg;rw[M (.inl b),Bo];rfl
  simp[B]at c;obtain⟨v,j,t,s⟩:=c;exact E (.inl b) t (by rw[bn b]) s
 have k:¬e.aM=1:=by omega
 have u:¬e.aM=2:=by omega
 have q:¬e.aM=3:=by omega
 simp only[k,u,q,fM,EG,M (.inr b),hQ]at c;obtain⟨v,j,t,s⟩:=c;exact E (.inr b) t (by rw[a7 q]) s
theorem Mm(R:List bA)(x:PId)(b:Bool):(bM R x=none/\qP R x b=.error 3)\/∃o k,bM R x=some o/\R[k]?=some o/\qP R x b=if o.aS=b then .ok k else .error 4:=by
 unfold qP;by_cases a:di (kK x) R<0
 .rw[bn a];exact .inl ⟨Mg.1 a,rfl⟩
 rw[a7 a];obtain⟨c,d,e⟩:=F4.1 (Qk a);refine .inr ⟨R[(di (kK x) R).toNat],(di (kK x) R).toNat,?_,by simp,?_⟩
 .unfold bM;rw[OE];exact⟨d,_,c,rfl,λj f=>by simpa using e j f⟩
 simp_all
theorem akZ(d:(a.map bA.id).Nodup)(e:b∈a):bM a b.id=some b:=by
 unfold bM;obtain⟨k,c,rfl⟩:=mm.1 e;rw[OE];refine⟨Jv.2 rfl,k,c,rfl,λj f=> ?_⟩;have :=tT.1 (ry.1 d) j k (by omega) c f;cases h:kK a[k].id a[j]
 .rfl
 exact absurd (Jv.1 h) this
theorem ak0{h:dr}(a:h∈ju b f c):∃s∈b.ss,gA f c s=true/\s.aj=ju b f c:=by
 unfold ju at a⊢;cases d:b.ss.find? (gA f c) with
 |none=>rw[d]at a;cases a
 |some s=>exact⟨s,D9 d,IA d,rfl⟩
theorem abt(h:c∈eJ b):c∈b.ss.map cK.id:=by obtain⟨s,a,d⟩:=dF.1 h;exact dF.2 ⟨s,(p4.1 a).1,d⟩
theorem ak1(n:Int)(h:mv n):(Ep n).size<=21:=Z8 n h.1 h.2
theorem ak2(q:Nat):0<(Lib.decDigits q).length:=by rw[Lib.decDigits];split <;>simp
theorem ak3(n:Int):0<(Ep n).size:=by
 show 0<(Lib.itoa n).toArray.size;rw[K5];unfold Lib.itoa;split
 .simp
 exact ak2 _
def m5 (a:ByteArray):List ByteArray->ByteArray
 |[]=>⟨#[]⟩
 |x::l=>l.foldl (λs y=>(s++a)++y) x
theorem ak4(a:ByteArray)(l:List ByteArray)(y:ByteArray)(h:l≠[]):m5 a (l++[y])=(m5 a l++a)++y:=by
 cases l with
 |nil=>exact absurd rfl h
 |cons x l=>simp[m5,Ax]
theorem abu(a:ByteArray):a.toList.isEmpty=true↔a.size=0:=by
 constructor
 .intro h;have :a=⟨#[]⟩:=key_inj (by simp_all);rw[this];rfl
 simp_all
theorem abv(b:ByteArray){l:List ByteArray}(h:l≠[])(c:∀x∈l,0<x.size):0<(m5 b l).size:=by
 cases l with
 |nil=>exact absurd rfl h
 |cons x l=>
  have :∀(l:List ByteArray) (a:ByteArray),0<a.size->0<(l.foldl (λs y=>(s++b)++y) a).size:=by
   intro l
   induction l with
   |nil=>intro a h;exact h
   |cons y l ih=>intro a h;exact ih _ (by rw[mc,mc];omega)
  exact this l x (c x kH)
def Bp (a:PId->ByteArray) (b:Bool) (s:cK):ByteArray:=if b then nj a s.aj else(s.key++colon)++nj a s.aj
def nx (s:cK):Bool:=decide (0<s.aj.length)
theorem ak5(a b c:ByteArray):(a++b)++c=a++(b++c):=by apply SI;simp
theorem ak6(a:PId->ByteArray)(b:Bool){L:List ByteArray}(d:∀x∈L,0<x.size)(s:cK)(c:nx s=true):qc a b (m5 comma L) s=m5 comma (L++[Bp a b s]):=by
 unfold nx at c;simp at c;unfold qc;rw[a7 (by omega)];cases L with
 |nil=>
  have :(m5 comma []).toList.isEmpty=true:=(abu _).2 rfl;simp only[this,hQ];show(if b=true then(⟨#[]⟩:ByteArray) else((⟨#[]⟩:ByteArray)++s.key)++colon)++_=Bp a b s;unfold Bp;rw[empty_append];split
  .rfl
  rfl
 |cons x L=>
  rw[ak4 _ _ _ (by simp)];have e:=abv comma (l:=x::L) (by simp) d;have :(m5 comma (x::L)).toList.isEmpty=false:=by
   cases h:(m5 comma (x::L)).toList.isEmpty
   .rfl
   rw[(abu _).1 h]at e;omega
  simp only[this,r8,fM];unfold Bp;split
  .rfl
  simp only[ak5]
theorem ak7(a:PId->ByteArray)(b:Bool)(M:List cK)(d:∀s∈M,nx s=true->0<(Bp a b s).size):oq a b M=m5 comma ((M.filter nx).map (Bp a b)):=by
 have :∀(M:List cK),(∀s∈M,nx s=true->0<(Bp a b s).size)->∀(L:List ByteArray),(∀x∈L,0<x.size)->M.foldl (qc a b) (m5 comma L)=m5 comma (L++(M.filter nx).map (Bp a b)):=by
  intro M
  induction M with
  |nil=>intro _ L _;simp
  |cons s M ih=>
   intro d L f;rw[Iz];cases c:nx s
   .have :qc a b (m5 comma L) s=m5 comma L:=by
     unfold nx at c;simp at c;unfold qc
     simp_all
    simp_all
   rw[ak6 a b f s c,ih (λs c=>d s (jk _ c))]
   .simp[c]
   intro x e;rcases dZ.1 e with e|e
   .simp_all
   simp_all
 exact this M d [] (by simp)
end
section
open Go.RowKit Tryz
attribute [local go_sem ↓] Go.wp_at_zero Go.wp_at_succ
variable {a e h:World}{b f:Nat}{c d:Nat->Prop}
theorem jX.lt'{c}(h:jX a (some b) c):b<a.heap.size:=by
 rcases h with⟨h,_⟩|⟨f,g,i,e,d⟩
 .cases h
 cases e;exact d.lt
theorem fJ.there {d:Nat} {j:List (PId×fr)} {l:List (PId×eG)} (h:fJ b f c j l) (m:cW a d b f j l):fJ b f (λk=>c k/\k<a.heap.size) j l:=by
 refine⟨h.ne,λg=>h.ro g.1,λg=>h.EA g.1,λp i e g=>⟨h.gQ p i e g,uj.lt (m.hk p i) e g⟩,λp i k n e g=>⟨h.ja p i k n e g,?_⟩,λp i e g=>⟨h.hh p i e g,?_⟩⟩
 .have :=(m.hk p i).2 k n;rw[g]at this;exact this.lt'
 have :=m.aO p i;rw[g]at this;exact this.lt'
theorem setRow{w:World}{g i:Nat}{a:Array Value}{t:TypeId}{u:Value}(h:w.heap[g]?=some (.cells a t)):(w.setCell (K g i) u).heap[g]?=some (.cells (a.setIfInBounds i u) t):=by obtain⟨_,b⟩:=e8.1 h;simp[World.setCell,aU h,xR,b]
theorem ak8{g i c d e f u:Value}{t:TypeId}(h:a.heap[b]?=some (.cells #[g,i,c,d,e,f] t)):(a.setCell (K b 1) u).heap[b]?=some (.cells #[g,u,c,d,e,f] t):=by obtain⟨_,j⟩:=e8.1 h;simp[World.setCell,aU h,xR,j]
theorem dp.before(f:J a e)(b:dp c d e h):dp c d a h:=
 ⟨b.os.trans f.os,b.tape.trans f.tape,b.output.trans f.output,cd f.size b.size,λk g hF=>(b.other k (c0 g f.size) hF).trans (f.block k g),λk g=>(b.sub k g).imp id λi=>cd f.size i⟩
theorem dp.after(b:dp c d a e)(f:J e h):dp c d a h:=
 ⟨f.os.trans b.os,f.tape.trans b.tape,f.output.trans b.output,cd b.size f.size,λk g hF=>(f.block k (c0 g b.size)).trans (b.other k g hF),b.sub⟩
theorem dp.ym(h:dp c d a e)(i:a.heap.size<=b)(u:Value):dp c d a (e.setCell (K b f) u):=
 ⟨h.os,h.tape,h.output,by simpa[World.setCell]using h.size,λk g hF=>(dE (by omega)).trans (h.other k g hF),h.sub⟩
theorem dp.trans{F c d w e f}(h:dp F c w e)(k:dp c d e f):dp F d w f:=
 ⟨k.os.trans h.os,k.tape.trans h.tape,k.output.trans h.output,cd h.size k.size,λi b hF=>(k.other i (c0 b h.size) λa=>(h.sub i a).elim hF λg=>by omega).trans (h.other i b hF),
  λi b=>(k.sub i b).elim (λa=>h.sub i a) λa=>.inr (cd h.size a)⟩
end
section
open Go.RowKit Tryz
variable {a h:Nat->Prop}{b c d m n q s:Nat}{f l:Value}{i:List ay}{j r:World}{k:cZ}
def rQ (w:World) (I:Nat->Prop) (c:Value):mY->Prop
 |.inl l=>c=.iface 197 (.agg #[.bool l])
 |.inr (.inl (x,b))=>c=.iface 179 (.agg #[A x.1,A x.2,A b.1,A b.2])
 |.inr (.inr (.inl (o,a,x,d,e)))=>∃s,c=.iface 182 (.agg #[A o.1,A o.2,.string a,A x.1,A x.2,A d.1,A d.2.1,A d.2.2,s])/\fu w s e/\∀k,s.ownBlock=some k->I k
 |.inr (.inr (.inr (o,a,x,e)))=>∃s,c=.iface 184 (.agg #[A o.1,A o.2,.string a,A x.1,A x.2,s])/\fu w s e/\∀k,s.ownBlock=some k->I k
theorem rQ.chg{w q}(h:rQ w a f q):CT w f q:=by
 rcases q with l|⟨x,b⟩|⟨o,d,x,i,g⟩|⟨o,d,x,g⟩
 .exact h
 .exact h
 .obtain⟨s,e,c,_⟩:=h;exact⟨s,e,c⟩
 obtain⟨s,e,c,_⟩:=h;exact⟨s,e,c⟩
theorem rQ.fW{w c q}{w':World}(d:rQ w a c q)(f:∀k,a k->w'.heap[k]?=w.heap[k]?)(n:∀k,a k->h k):rQ w' h c q:=by
 rcases q with l|⟨x,b⟩|⟨o,p,x,t,r⟩|⟨o,p,x,r⟩
 .exact d
 .exact d
 .obtain⟨s,e,j,i⟩:=d;exact⟨s,e,cu j λg m=>f g (i g m),λk f=>n k (i k f)⟩
 obtain⟨s,e,j,i⟩:=d;exact⟨s,e,cu j λg m=>f g (i g m),λk f=>n k (i k f)⟩
theorem l1.append:∀{l m:List pC} {D a b:cZ},l1 D l a->l1 a m b->l1 D (l++m) b
 |[],m,D,a,b,h,k=>by
  have e:a=D:=h
  simp_all
 |x::l,m,D,a,b,⟨c,d,f⟩,k=>⟨c,d,f.append k⟩
abbrev k8:=cZ×List pC
def ES (B:k8) (l:List pC) (D:cZ):Prop:=l1 B.1 (B.2++l) D
theorem ES.append{B l m a b}(h:ES B l a)(k:l1 a m b):ES B (l++m) b:=by unfold ES at *;rw[<-kr];exact l1.append h k
structure hV where
 d:Nat
 b:Nat
 e:Nat
 D:cZ
variable {e:List hV}
def lE (a:List hV) (c d:Nat):List Nat:=a.flatMap (λr=>[r.b,r.e])++[c,d]
def lF (F:Nat->Prop) (a:List hV) (b c:Nat) (k:Nat):Prop:=F k/\k∉lE a b c
structure iP (w:World) (ah sp su:Nat) (c5 cl:Value) (ar:List ay) (n:Nat) (rs:List hV) (d aF be:Nat) (F I:Nat->Prop) (D0:k8) (D:cZ):Prop where
 bb:kP w ah sp su c5 cl d
 row:eV 0 w c5 ar
 chg:∀o∈ar,rQ w I (.iface o.t o.v) o.op.chg
 mem:o4 0 w cl (rs.map (·.d))
 rR:1<=sp
 sH:sp<=50
 tt:su<sp
 le:n<=ar.length
 len:ar.length<=300
 sI:∀r∈rs,cW w r.d r.b r.e r.D.1 r.D.2/\fJ r.b r.e (lF F rs aF be) r.D.1 r.D.2/\ha r.D
 mx:∀j (aB:j<rs.length),ES D0 ((ar.map (·.op)).take (j*sp-su)) rs[j].D
 q:cW w d aF be D.1 D.2
 own:fJ aF be (lF F rs aF be) D.1 D.2
 kj:ha D
 did:ES D0 ((ar.map (·.op)).take n) D
 maps:(lE rs aF be).Nodup
 pG:F ah
 qh:∀k,c5.ownBlock=some k->F k
 q5:∀k,cl.ownBlock=some k->F k
 cc:∀r∈rs,F r.d/\F r.b/\F r.e
 fd:F d
 pH:F aF
 pI:F be
 lt:∀k,F k->k<w.heap.size
 e0:∀k,I k->¬F k
 cI:∀k,I k->k<w.heap.size
theorem cW.ke{i l}(h:cW j d b c i l)(m:fJ b c a i l)(o:r.heap[d]?=j.heap[d]?)(q:r.heap[b]?=j.heap[b]?)(s:r.heap[c]?=j.heap[c]?)(n:∀k,a k->r.heap[k]?=j.heap[k]?):cW r d b c i l:=by obtain⟨t,u,v⟩:=h.al;obtain⟨w,x,y⟩:=h.he;refine⟨by rw[o];exact h.ao,⟨t,u,v.hU q⟩,⟨w,x,y.hU s⟩,λp f=>(h.hk p f).hU (λe g=>n e (m.gQ p f e g)) (λk z e g=>n e (m.ja p f k z e g)),λp f=> ?_⟩;exact(h.aO p f).hU (λe g=>n e (m.hh p f e g))
theorem kQ{a:List hV}:c∈lE a d m↔(∃r∈a,c=r.b\/c=r.e)\/c=d\/c=m:=by unfold lE;simp
theorem iP.hA{sp su D0 D}(p:iP j b sp su f l i c e d m n a h D0 D)(B:j.heap.size<=r.heap.size)(w:∀k,a k->r.heap[k]?=j.heap[k]?)(E:∀k,h k->r.heap[k]?=j.heap[k]?):iP r b sp su f l i c e d m n a h D0 D:=by
 refine⟨?_,cu p.row λg y=>w g (p.qh g y),λo F=>(p.chg o F).fW E (λ_ x=>x),cu p.mem λg y=>w g (p.q5 g y),p.rR,p.sH,p.tt,p.le,p.len,λs C=> ?_,p.mx,p.q.ke p.own (w _ p.fd) (w _ p.pH) (w _ p.pI) λk z=>w k z.1,p.own,p.kj,p.did,p.maps,p.pG,p.qh,p.q5,p.cc,p.fd,p.pH,p.pI,λk hF=>c0 (p.lt k hF) B,p.e0,λk hF=>c0 (p.cI k hF) B⟩
 .unfold kP;rw[w _ p.pG];exact p.bb
 obtain⟨u,t,v⟩:=p.sI s C;obtain⟨I,L,M⟩:=p.cc s C;exact⟨u.ke t (w _ I) (w _ L) (w _ M) λk z=>w k z.1,t,v⟩
theorem iP.ak{w n D0 D}{w':World}(g:iP w b c d f l i n e m q s a h D0 D)(j:J w w'):iP w' b c d f l i n e m q s a h D0 D:=g.hA j.size (λk o=>j.block k (g.lt k o)) (λk o=>j.block k (g.cI k o))
theorem iP.done {w:World} {Y su:Nat} {D0:k8} (u:iP w s Y su f l i d e n b c a h D0 k) (I:aR (λp=>p=b\/p=c) w j) (yn:d<=m) (S:m<=i.length) {D':cZ} (iB:l1 k (((i.map (·.op)).drop d).take (m-d)) D') (aw:cW j n b c D'.1 D'.2) (al:fJ b c (λp=>lF a e b c p\/w.heap.size<=p) D'.1 D'.2):
  ∃aY,iP j s Y su f l i m e n b c aY h D0 D'/\dp a aY w j:=by
 obtain⟨es,aX,mz⟩:=u.q.al;obtain⟨kg,kh,k6⟩:=u.q.he;have U:∀(p:Nat) (z:Array Value) (t:TypeId) (B:Nat×Nat),w.heap[p]?=some (.cells z t B)->j.heap[p]?=w.heap[p]?:=λp z t B E=>I.other p (aU E) λM=>by
  rcases M with rfl|rfl
  .rw[mz.bb]at E;cases E
  rw[k6.bb]at E;cases E
 have fl:∀{y:TypeId} {size:Nat} {v:Value} {d:Nat} {xs:List Value},w.ownsRow 0 y size v d xs->j.ownsRow 0 y size v d xs:=λF=>cu F λg aq=>by obtain⟨cur,hc⟩:=b0 F aq;exact U g _ _ _ hc
 have W:=λp hF N P=>I.other p (u.lt p hF) λM=>M.elim N P
 have bO:∀p,lF a e b c p->j.heap[p]?=w.heap[p]?:=λp E=>W p E.1 (λy=>E.2 (kQ.2 (.inr (.inl y)))) (λy=>E.2 (kQ.2 (.inr (.inr y))))
 have qr:∀p,lF a e b c p->lF (λp=>a p\/(w.heap.size<=p/\p<j.heap.size)) e b c p:=λp E=>⟨.inl E.1,E.2⟩
 have AP:∀p∈lE e b c,p<w.heap.size:=λp E=>by
  rcases kQ.1 E with⟨r,F,rfl|rfl⟩|rfl|rfl
  .exact u.lt _ (u.cc r F).2.1
  .exact u.lt _ (u.cc r F).2.2
  .exact u.lt _ u.pH
  exact u.lt _ u.pI
 have yj:∀r∈e,r.b≠b/\r.b≠c/\r.e≠b/\r.e≠c:=λr F=>by have S:=u.maps;have Q:=(nI.1 S).2.2;have N:r.b∈e.flatMap (λr=>[r.b,r.e]):=lg.2 ⟨r,F,by simp⟩;have P:r.e∈e.flatMap (λr=>[r.b,r.e]):=lg.2 ⟨r,F,by simp⟩;exact⟨Q _ N _ (by simp),Q _ N _ (by simp),Q _ P _ (by simp),Q _ P _ (by simp)⟩
 refine⟨λp=>a p\/(w.heap.size<=p/\p<j.heap.size),⟨?_,fl u.row,λo hj=>(u.chg o hj).fW (λp E=>I.other p (u.cI p E) λM=> ?_) (λ_ x=>x),fl u.mem,u.rR,u.sH,u.tt,S,u.len,λr F=> ?_,u.mx,aw,?_,u.kj.mx iB,?_,u.maps,.inl u.pG,λp E=>.inl (u.qh p E),λp E=>.inl (u.q5 p E),λr F=>⟨.inl (u.cc r F).1,.inl (u.cc r F).2.1,.inl (u.cc r F).2.2⟩,.inl u.fd,.inl u.pH,.inl u.pI,λp E=>E.elim (λhF=>c0 (u.lt p hF) I.size) (λx=>x.2),λp R E=>E.elim (u.e0 p R) (λx=>by have :=u.cI p R;omega),λp R=>c0 (u.cI p R) I.size⟩,⟨I.os,I.tape,I.output,I.size,λp E hF=>I.other p E λM=> ?_,λp E=>E.imp id (·.1)⟩⟩
 .unfold kP;rw[U _ _ _ _ u.bb];exact u.bb
 .rcases M with rfl|rfl
  .exact u.e0 _ E u.pH
  exact u.e0 _ E u.pI
 .obtain⟨C,D,z⟩:=u.sI r F;obtain⟨dc,cx,pr,U3⟩:=yj r F;exact⟨C.ke D (U _ _ _ _ C.ao) (W _ (u.cc r F).2.1 dc cx) (W _ (u.cc r F).2.2 pr U3) bO,D.mono qr (λL=>L.2 (kQ.2 (.inl ⟨r,F,.inl rfl⟩))) (λL=>L.2 (kQ.2 (.inl ⟨r,F,.inr rfl⟩))),z⟩
 .refine(al.there aw).mono (λp E=> ?_) (λL=>L.2 (kQ.2 (.inr (.inl rfl)))) (λL=>L.2 (kQ.2 (.inr (.inr rfl))));rcases E.1 with X|X
  .exact qr p X
  exact⟨.inr ⟨X,E.2⟩,λL=>by have :=AP p L;omega⟩
 .have :=u.did.append iB;rwa [<-Y4,show d+(m-d)=m by omega]at this
 rcases M with rfl|rfl
 .exact hF u.pH
 exact hF u.pI
theorem iP.Qa {w:World} {vr':Value} {D0:k8} (v:iP w b n q f l i s e m c d a h D0 k) (N:aR (λu=>u=b\/l.ownBlock=some u) w j) {r:hV} (Q:kP j b n q f vr' m) (U:o4 0 j vr' (e.map (·.d)++[r.d])) (hn:lB w l vr')
  (L:cW j r.d r.b r.e r.D.1 r.D.2) (Y:r.D=k) (h1:w.heap.size<=r.d) (h2:w.heap.size<=r.b) (ax:w.heap.size<=r.e) (a8:r.b≠r.e) (aB:e.length*n-q=s):
  ∃aY,iP j b n q f vr' i s (e++[r]) m c d aY h D0 k/\dp a aY w j:=by
 have fV:∀(u:Nat) (C:Array Value) (t:TypeId) (F:Nat×Nat),w.heap[u]?=some (.cells C t F)->t≠204->t≠101->j.heap[u]?=w.heap[u]?:=λu C t F I dc cx=>N.other u (aU I) λM=>by
  rcases M with rfl|M
  .exact dc (cQ I v.bb)
  obtain⟨cur,P⟩:=b0 v.mem M;exact cx (cQ I P)
 have auw:∀(u:Nat) (es:Array MapEntry) (aX:Nat),w.heap[u]?=some (.map es aX)->j.heap[u]?=w.heap[u]?:=λu es aX I=>N.other u (aU I) λM=>by
  rcases M with rfl|M
  .have :=v.bb;unfold kP at this;rw[I]at this;cases this
  obtain⟨cur,P⟩:=b0 v.mem M;rw[I]at P;cases P
 have Hg:∀{m c d:Nat} {os:List (PId×fr)} {bk:List (PId×eG)},cW w m c d os bk->cW j m c d os bk:=λL=>L.kept N λu I=>by
  rcases I with rfl|I
  .exact⟨_,_,_,v.bb,by decide⟩
  obtain⟨cur,P⟩:=b0 v.mem I;exact⟨_,_,_,P,by decide⟩
 have AP:∀u∈lE e c d,u<w.heap.size:=λu I=>by
  rcases kQ.1 I with⟨r,U,rfl|rfl⟩|rfl|rfl
  .exact v.lt _ (v.cc r U).2.1
  .exact v.lt _ (v.cc r U).2.2
  .exact v.lt _ v.pH
  exact v.lt _ v.pI
 have R:∀u,u∈lE (e++[r]) c d↔u∈lE e c d\/u=r.b\/u=r.e:=λu=>by
  rw[kQ,kQ];constructor
  .rintro(⟨B,L,y⟩|y)
   .rcases dZ.1 L with L|L
    .exact .inl (.inl ⟨B,L,y⟩)
    obtain rfl:=fR.1 L;exact .inr y
   exact .inl (.inr y)
  rintro((⟨B,L,y⟩|y)|y)
  .exact .inl ⟨B,p3 _ L,y⟩
  .exact .inr y
  exact .inl ⟨r,Gc _ (fR.2 rfl),y⟩
 have W:∀u,lF a e c d u->lF (λu=>a u\/(w.heap.size<=u/\u<j.heap.size)) (e++[r]) c d u:=λu I=>⟨.inl I.1,λQ=>by
  rcases(R u).1 Q with Q|rfl|rfl
  .exact I.2 Q
  .have :=v.lt _ I.1;omega
  have :=v.lt _ I.1;omega⟩
 have S:∀u,u∈lE (e++[r]) c d->¬lF (λu=>a u\/(w.heap.size<=u/\u<j.heap.size)) (e++[r]) c d u:=λu I Q=>Q.2 I
 have jB:=L;rw[Y]at jB;obtain⟨_,_,U4⟩:=L.al;obtain⟨_,_,JA⟩:=L.he;have bu:=L.lt;have vb:cW j r.d r.b r.e r.D.1 r.D.2/\fJ r.b r.e (lF (λu=>a u\/(w.heap.size<=u/\u<j.heap.size)) (e++[r]) c d) r.D.1 r.D.2/\ha r.D:=by refine⟨L,?_,Y▸v.kj⟩;rw[Y];have o:=v.own;exact⟨a8,S _ ((R _).2 (.inr (.inl rfl))),S _ ((R _).2 (.inr (.inr rfl))),λp X z b=>W z (o.gQ p X z b),λp X u I z b=>W z (o.ja p X u I z b),λp X z b=>W z (o.hh p X z b)⟩
 refine⟨λu=>a u\/(w.heap.size<=u/\u<j.heap.size),⟨Q,cu v.row λg aq=> ?_,λo hj=>(v.chg o hj).fW (λu I=>N.other u (v.cI u I) λM=> ?_) (λ_ x=>x),by rw[ga];exact U,v.rR,v.sH,v.tt,v.le,v.len,λB L=> ?_,λE pJ=> ?_,Hg v.q,v.own.mono W (S _ ((R _).2 (.inl (kQ.2 (.inr (.inl rfl)))))) (S _ ((R _).2 (.inl (kQ.2 (.inr (.inr rfl)))))),v.kj,v.did,?_,.inl v.pG,λu I=>.inl (v.qh u I),λu I=> ?_,λB L=> ?_,.inl v.fd,.inl v.pH,.inl v.pI,λu I=>I.elim (λhF=>c0 (v.lt u hF) N.size) (λx=>x.2),λu hi I=>I.elim (v.e0 u hi) (λx=>by have :=v.cI u hi;omega),λu hi=>c0 (v.cI u hi) N.size⟩,⟨N.os,N.tape,N.output,N.size,λu I hF=>N.other u I λM=> ?_,λu I=>I.imp id (·.1)⟩⟩
 .obtain⟨cur,P⟩:=b0 v.row aq;exact fV g _ _ _ P (by decide) (by decide)
 .rcases M with rfl|M
  .exact v.e0 _ I v.pG
  exact v.e0 _ I (v.q5 _ M)
 .rcases dZ.1 L with L|L
  .obtain⟨D,z,C⟩:=v.sI B L;exact⟨Hg D,z.mono W (S _ ((R _).2 (.inl (kQ.2 (.inl ⟨B,L,.inl rfl⟩))))) (S _ ((R _).2 (.inl (kQ.2 (.inl ⟨B,L,.inr rfl⟩))))),C⟩
  obtain rfl:=fR.1 L;exact vb
 .by_cases aL:E<e.length
  .rw[Cf aL];exact v.mx E aL
  have :E=e.length:=by simp at pJ;omega
  subst this;rw[af5 rfl,aB,Y];exact v.did
 .have hm:=v.maps;unfold lE at hm⊢;rw[oL,kr,nI];obtain⟨m1,m2,m3⟩:=nI.1 hm;have ak9:=λu I=>AP u (by exact p3 _ I)
  have lbo:=v.lt _ v.pH;have lbe:=v.lt _ v.pI;refine⟨m1,?_,λD aE z b=> ?_⟩
  .simp only[jI,SY,oM,p5,sZ,oN,ft,SZ,S0,K6,not_false_eq_true,IB,sb];refine⟨⟨a8,by omega,by omega⟩,⟨by omega,by omega⟩,v.own.ne⟩
  rcases dZ.1 b with b|b
  .have :=ak9 D aE;simp at b;rcases b with rfl|rfl<;>omega
  exact m3 D aE z b
 .rcases hn with y|y
  .rw[y]at I;exact .inl (v.q5 u I)
  refine .inr ⟨y u I,?_⟩;obtain⟨cur,P⟩:=b0 U I;exact aU P
 .rcases dZ.1 L with L|L
  .exact⟨.inl (v.cc B L).1,.inl (v.cc B L).2.1,.inl (v.cc B L).2.2⟩
  obtain rfl:=fR.1 L;exact⟨.inr ⟨h1,bu⟩,.inr ⟨h2,U4.lt⟩,.inr ⟨ax,JA.lt⟩⟩
 rcases M with rfl|M
 .exact hF v.pG
 exact hF (v.q5 _ M)
end
section
open Go.RowKit Tryz
attribute [local go_sem ↓] Go.wp_at_zero Go.wp_at_succ
variable {a d e f:Nat}{b:List Value}{c:Value}
theorem ala(h:1<=a)(l:d<a)(i:e=(d+f)/a+1):f<e*a-d/\e*a<=d+f+a/\∀m,f<=m->(m<e*a-d->e=(d+m)/a+1)/\(m=e*a-d->e+1=(d+m)/a+1):=by
 have c:=Y5 (d+f) a;have b:=IC (d+f) h;generalize(d+f)/a=q at *;generalize(d+f)%a=t at *;have g:e*a=a*q+a:=by rw[i,uW,K7,Y6]
 obtain⟨P,j⟩:∃P,P=a*q:=⟨_,rfl⟩;rw[<-j]at c g;refine⟨by omega,by omega,λm n=>⟨λo=> ?_,λp=> ?_⟩⟩
 .rw[i];congr 1;have k:d+m=(d+m-P)+a*q:=by omega
  rw[k,Nat.add_mul_div_left _ _ h,Nat.div_eq_of_lt (by omega)];omega
 congr 1;rw[show d+m=a*e by rw[K7];omega,Nat.mul_div_cancel_left _ h]
theorem abw {w:World} {cl:Value} {p:List ay} {n:Nat} {rs:List hV} {aF be:Nat} {F I:Nat->Prop} {D0:k8} {D:cZ} (h:iP w a d e c cl p n rs f aF be F I D0 D) (nS:rs.length=(e+n)/d+1):
  O 191 #[Z a,A n] w λb w'=>(∃r,b=ad r)/\∃vr' l L D',iP w' a d e c vr' p p.length l f aF be L I D0 D'/\l.length=(e+p.length)/d+1/\dp F L w w':=by
 have hlen:=h.len;have eb:=h.le;obtain⟨jO,X,rfl,nw,Qq,Cp⟩:=bz h.row;unfold maxLen at Qq;have aT:=ag (aN h nS);clear h nS;have Pf:=ag Cp;clear Cp;go_enter func191,ntmps191;go_wp2_with fail
 go_loopw [1] (λi wr=>∃k vr' l L D',i=A (k:Nat)/\iP wr a d e (.slice jO p.length X) vr' p k l f aF be L I D0 D'/\l.length=(e+k)/d+1/\dp F L w wr) (λi _=>p.length-(intOf i).toNat)
 case atStart=>exact⟨n,cl,rs,F,D,rfl,aT.o.1,aT.o.2,dp.cL (ca _ _)⟩
 case round=>
  obtain⟨k,vr',l,L,D',rfl,t,M,cy⟩:=hrel;have ej:=t.le;obtain⟨bw,bm,N,u,eN⟩:=fh t.bb;clear bw bm;by_cases aL:k<p.length
  .obtain⟨nu,pp,nY⟩:=ala t.rR t.tt M;have mD:=t.sH;have yk:=t.tt;have qR:l.length<=400:=by rw[M];have :=SX (e+k) d;omega
   obtain⟨ET,tu,rfl,Qj,U5,C6⟩:=bz t.mem;unfold maxLen at U5;clear C6;rw[c2]at u Qj;obtain⟨g,rfl⟩:=Pf.o 0 (by omega);have jw:=ag (Qi t.bb l.length (by omega) t.sH (by omega));obtain⟨m,hm⟩:∃m:Nat,m=l.length*d-e:=⟨_,rfl⟩;rw[<-hm]at jw nu nY;have HMM:=ag hm;have Lw:m<=500:=by omega
   have rK:=ag nY;clear hm pp nY;have Y:=ag (aN t (aN M cy));clear t M cy;go_wp2_with fail
   refine jw.o.mono ?_;rintro b B ⟨rfl,aA⟩;replace N:=ak aA N;replace u:=ak aA u;replace eN:=ak aA eN;have aJ:=ag aA;clear aA;have eK:=ag (Y.o.1.ak aJ.o);obtain⟨s,aj⟩:∃s:Nat,s=min m p.length:=⟨_,rfl⟩;have rE:min (m:Int) (p.length:Int)=(s:Int):=by omega
   have er:k<s:=by omega
   have se:s<=p.length:=by omega
   have hsm:s<=m:=by omega
   have jY:(0:Int)<=(k:Int):=by simp
   have aux:(k:Int)<=(s:Int):=by omega
   have hsc:(s:Int)<=(X:Int):=by omega
   have Bq:¬(X=k):=by omega
   have v:=ag (eK.o.ak (gb B));have q3:=ag (show O 134 #[Z f,.slice (some (K g (k*4))) (s-k) (X-k)] B.drew _ from by
    have :=abf (w:=B.drew) (R:=λj=>lF L l aF be j\/B.drew.heap.size<=j) v.o.q (v.o.own.mono (λj aB=>.inl aB) (λaz=>az.elim v.o.own.ro (λx=>by have :=v.o.lt _ v.o.pH;omega)) (λaz=>az.elim v.o.own.EA (λx=>by have :=v.o.lt _ v.o.pI;omega))) v.o.kj (λj aB=>.inr aB) g (k*4) (X-k) (((p.map (·.op)).drop k).take (s-k)) (by simp;omega) (by simp;omega) (by omega) (λi hi=>by simp at hi;obtain⟨cR,av,aD,cY⟩:=eV.cells v.o.row (k+i) (by omega);have L3:=v.o.chg p[k+i] (dB _);rw[show k*4+i*4=(k+i)*4 by omega];simp only[K1,OI,pn];exact⟨cR,av,aD,_,cY,L3.chg⟩)
    simpa[show min (s-k) (p.length-k)=s-k by omega]using this)
   have Lh:=aU eK.o.bb;have y:=ag (show a≠aF/\a≠be from by
    obtain⟨es,aX,mz⟩:=eK.o.q.al;obtain⟨kg,kh,k6⟩:=eK.o.q.he;have h1:=eK.o.bb;constructor
    .rintro rfl;unfold kP at h1;rw[mz.bb]at h1;cases h1
    rintro rfl;unfold kP at h1;rw[k6.bb]at h1;cases h1)
   rcases(show s=m\/s<m by omega) with k6|aaE
   .have U6:=trivial;go_wp2_with fail
    all_goals(try(exfalso;omega))
    rw[<-aj];clear aj rE U6;subst k6;go_region_held3 (λW=>W.cell? (K a 2)=some (aa g p.length X)/\W.cell? (K a 4)=some (Z f)) (go_keep)
     (first |(go_at_call 134;refine q3.o.mono ?_;rintro b E ⟨⟨r,rfl⟩,⟨Hh,Hi,iB,jb,js⟩,z⟩;replace N:=z.cell (w:=B.drew) (λh=>h.elim y.o.1 y.o.2) N;replace u:=z.cell (w:=B.drew) (λh=>h.elim y.o.1 y.o.2) u;replace eN:=z.cell (w:=B.drew) (λh=>h.elim y.o.1 y.o.2) eN;have C:=ag (v.o.done z (by omega) se (D':=(Hh,Hi)) iB jb js);clear iB jb js z))
    obtain⟨kA,P,qs⟩:=C.o;clear C;rw[c2]at P;have C:=ag P;have Bs:=ag (show dp F kA w E from Y.o.2.2.trans (qs.before aJ.o.drew));clear qs;have gh:=ag (show o4 0 E (.slice ET l.length tu) (l.map (·.d)) from P.mem);have alb:=ag (show J E E.drew from(gb E));have EU:=ag (UD (C.o.ak alb.o).q);have alc:=World.new_ne E (K a 3) u;have c7:=ag P.bb;have Hj:=ag (show some a≠(Value.slice ET l.length tu).ownBlock from λb=>by exact iX gh.o b.symm c7.o (by decide))
    have auy:=aU P.bb;clear P;have U7:=ag (show(l.map (·.d)).length=l.length from c2 _);go_wp2_with fail
    go_region_law (first
      |(go_simp;go_at_call 213;refine EU.o.mono ?_;rintro b Q ⟨⟨d3,bo3,be3,rfl,Bk,C0,EM,EN,EO⟩,bu⟩;have U:=Hq.o (nv bu);clear bu;replace N:=ak U N;replace u:=ak U u;replace eN:=ak U eN;have ox:=U.size;have C7:a<Q.heap.size:=(by omega);have abx:=World.new_ne Q (K a 3) u;have eQ:=ag (bB c7.o U);have iZ:=ag (show o4 0 Q (.slice ET l.length tu) (l.map (·.d)) from dI gh.o U);have cj:=ag U;clear U;have C1:=ag (aN Bk (aN C0 (aN EM (aN EN EO))));clear Bk C0 EM EN EO;have b9:=ag (show J Q (Q.alloc (.cells #[Z d3] 101)) from aV Q _);dsimp only)
      |(refine AI iM 1 8 200 101 (.pointer none) (by rfl) underlying200 rfl (by omega) (λ_=>rfl) (by rfl) (.tmp 47) (.tmp 53) (by rfl) 0 (.slice ET l.length tu) (l.map (λx:hV=>x.d)) (by rfl) (dI iZ.o b9.o) Q.heap.size 1 d3 (by rfl) (UR (abn (bZ Q _))) (Qh d3) (by rw[c2];omega) (by rw[c2];unfold maxLen;omega) (b6 _) ?_;intro v4 w4 hM eF iu;have fU:=ag hM;have mE:=ag eF;have ny:=ag iu;have Qr:=((eF.block a (by simp;omega) (Hj.o)).trans (is _ _ C7));have hr:=ag (Qr.trans eQ.o);clear Qr hM eF iu;obtain⟨a4,lo,rS,xg,yo,yp⟩:=bz fU.o;rw[U7.o]at rS;subst rS;clear xg yo yp;replace u:=(fh hr.o).2.2.2.1;have xX:=cV hr.o 3))
    all_goals go_wp2
    all_goals go_roundw
    all_goals first
     |(simp[intOf];omega)
     |(
      have Bf:aR (λk=>k=a\/(Value.slice ET l.length tu).ownBlock=some k) E w4:=(aR.cL (bp cj.o b9.o)).trans (aR.up mE.o λk hk=>.inr hk);have Bt:=Bf.trans (aR.it (w:=w4) (g:=a) (o:=3) (.slice a4 (l.length+1) lo) (.inl rfl));have vG:(Value.slice a4 (l.length+1) lo).ownBlock≠some a:=λb=>by exact iX fU.o b hr.o (by decide)
      have EV:=C1.o.1.kept ((aR.cL b9.o).trans ((aR.up mE.o (S:=λk=>k=a\/(Value.slice ET l.length tu).ownBlock=some k) λk hk=>.inr hk).trans (aR.it (w:=w4) (g:=a) (o:=3) (.slice a4 (l.length+1) lo) (.inl rfl)))) (λk hk=>by
       rcases hk with rfl|hk
       .exact⟨_,_,_,eQ.o,by decide⟩
       obtain⟨cur,M⟩:=b0 iZ.o hk;exact⟨_,_,_,M,by decide⟩)
      obtain⟨avR,UX,P7⟩:=C.o.Qa Bt (vr':=.slice a4 (l.length+1) lo) (r:=⟨d3,bo3,be3,(Hh,Hi)⟩) (Qg hr.o) (by have :=kd fU.o vG (o:=3) (.slice a4 (l.length+1) lo);unfold o4;rw[dh];omega) (ny.o.mono (cd cj.o.size b9.o.size)) EV rfl C1.o.2.1 C1.o.2.2.1 C1.o.2.2.2.1 C1.o.2.2.2.2 HMM.o.symm
      exact⟨s,_,l++[⟨d3,bo3,be3,(Hh,Hi)⟩],avR,(Hh,Hi),rfl,UX,by rw[dh];exact(rK.o s (by omega)).2 rfl,Bs.o.trans P7⟩)
   have U6:=trivial;go_wp2_with fail
   all_goals(try(exfalso;omega))
   rw[<-aj];clear aj rE U6;go_region_held3 (λW=>W.cell? (K a 2)=some (aa g p.length X)/\W.cell? (K a 4)=some (Z f)) (go_keep)
    (first |(go_at_call 134;refine q3.o.mono ?_;rintro b E ⟨⟨r,rfl⟩,⟨Hh,Hi,iB,jb,js⟩,z⟩;replace N:=z.cell (w:=B.drew) (λh=>h.elim y.o.1 y.o.2) N;replace u:=z.cell (w:=B.drew) (λh=>h.elim y.o.1 y.o.2) u;replace eN:=z.cell (w:=B.drew) (λh=>h.elim y.o.1 y.o.2) eN;have C:=ag (v.o.done z (by omega) se (D':=(Hh,Hi)) iB jb js);clear iB jb js z))
   obtain⟨kA,P,qs⟩:=C.o;clear C;have C:=ag P;have Bs:=ag (show dp F kA w E from Y.o.2.2.trans (qs.before aJ.o.drew));clear qs;go_wp2;go_roundw
   case rel=>exact⟨s,_,l,kA,(Hh,Hi),rfl,C.o,(rK.o s (by omega)).1 aaE,Bs.o⟩
   case measure=>simp[intOf];omega
  have iC:k=p.length:=by omega
  subst iC;have Y:=ag (aN t (aN M cy));clear t M cy u eN;go_wp2;go_end0
  exact⟨⟨_,rfl⟩,vr',l,L,D',Y.o.1,Y.o.2.1,Y.o.2.2⟩
def tv (a:Array Value) (o:Nat):List Value->Array Value
 |[]=>a
 |v::r=>tv (a.setIfInBounds o v) (o+1) r
theorem JB:∀(b:List Value) (a:Array Value) (o:Nat),(tv a o b).size=a.size
 |[],_,_=>rfl
 |v::r,a,o=>by unfold tv;rw[JB r,af6]
theorem Mo:∀(c:List Value) (a:Array Value) (o j:Nat),(tv a o c)[j]?=if o<=j/\j<o+c.length/\j<a.size then c[j-o]? else a[j]?
 |[],a,o,j=>by unfold tv;rw[a7 (by simp;omega)]
 |v::r,a,o,j=>by
  unfold tv;rw[Mo r,af6,iq];by_cases d:j=o
  .subst d;rw[a7 (by omega)];by_cases b:j<a.size
   .simp_all
   simp_all
  by_cases b:o+1<=j/\j<o+1+r.length/\j<a.size
  .rw[bn b,bn ⟨by omega,by omega,b.2.2⟩];obtain⟨k,f⟩:∃k,j-o=k+1:=⟨j-o-1,by omega⟩;rw[f,show j-(o+1)=k by omega];rfl
  rw[a7 b,a7 (by omega),F5,a7 (λe=>d e.symm)]
theorem JC{g:Nat}{t:TypeId}:∀(b:List Value) (o:Nat) (w:World) (a:Array Value),w.heap[g]?=some (.cells a t)->(w.setCells g o b).heap[g]?=some (.cells (tv a o b) t)
 |[],_,_,_,h=>h
 |v::r,o,w,a,h=>JC r (o+1) (w.setCell (K g o) v) (a.setIfInBounds o v) (setRow h)
theorem JD {g:Nat}:∀(a:List Value) (o:Nat) (W:World),aR (λk=>k=g) W (W.setCells g o a)
 |[],_,W=>aR.cL (ca _ _)
 |v::r,o,W=>(aR.it (S:=λk=>k=g) (g:=g) (o:=o) v rfl).trans (JD r (o+1) (W.setCell (K g o) v))
theorem aby{a:Array Value}{d:List Value}(h:b.length<=a.size):(tv (tv a 0 b) b.length d).toList.take b.length=b:=by
 apply xN;intro j;rw[wq];by_cases c:j<b.length
 .rw[bn c,S1,Mo,a7 (by omega),Mo,bn ⟨b6 _,by omega,by omega⟩,Nat.sub_zero]
 rw[a7 c,S2 (by omega)]
theorem abz{P:Program}(w:World)(t e d:TypeId)(z:Value)(f:P.underlying t=some (.slice e))(g:∀w,(zeroValue e).run P w=.ok z w)(h:∀u∈(Builtin.zeroCells z.cells 1).toList,u.oneCell'=true)(b o n c:Nat)(p:0<n)(q:∀j,j<n*z.cells.size->(w.cell? (K b (o+j))).isSome=true)(r:∀j,j<n*z.cells.size->w.frozen? (K b (o+j))=false):
  (Builtin.clear_ #[t] d #[.slice (some (K b o)) n c]).run P w=.ok (.tuple #[]) (w.setCells b o (Builtin.zeroCells z.cells n).toList):=by
 have s:(Builtin.zeroCells z.cells n).toList.length=n*z.cells.size:=by simp[Builtin.zeroCells]
 have k:=run_storeCells_cells (P:=P) b o (Builtin.zeroCells z.cells n).toList 0 w (by simp_all) (by simp_all) (by
  intro v a;simp only[Builtin.zeroCells,Array.toList_map,dF,Array.toList_range,rA]at a;obtain⟨i,x,rfl⟩:=a;refine h _ ?_;simp only[Builtin.zeroCells,Array.toList_map,dF,Array.toList_range,rA];have l:0<z.cells.size:=Nat.pos_of_ne_zero λe=>by simp_all
  exact⟨i%z.cells.size,by rw[Y6];exact IC _ l,by simp⟩)
 obtain⟨m,rfl⟩:∃m,n=m+1:=⟨n-1,by omega⟩;simp[Builtin.clear_,xM f,g,k]
theorem ald(W:World):(zeroValue 210).run prog W=.ok (.agg #[A 0,A 0,A 0,.nilIface]) W:=by kernel_rfl
theorem U9 {w:World} (h:w.ownsRow 0 210 4 c a b) (z:∀u∈b,u.oneCell'=true) {m:Nat} (hm:m<=a):
  O 135 #[c,A 0,A m] w λe M=>∃B,e=ad B/\M.ownsRow 0 210 4 B (a-m) (b.drop (m*4))/\aR (λj=>c.ownBlock=some j) w M/\B.ownBlock=c.ownBlock:=by
 by_cases h0:m=0
 .subst h0;obtain⟨l,d,rfl,jT,C,r⟩:=bz h;unfold maxLen at C;have aT:=h;have dX:=r;clear h z r;rcases S3 a with D|D
  .subst D;cases l with
   |none=>
    go_enter func135,ntmps135;go_wp2
    all_goals(go_ret;exact⟨_,rfl,by assumption,aR.cL (ca _ _),rfl⟩)
   |some oR=>
    obtain⟨g,rfl⟩:∃g,oR=(H g):=by
     rcases aT.2 with⟨e,_⟩|⟨g,cap,p,e,_⟩
     .cases e
     simp_all
    go_enter func135,ntmps135;go_wp2
    all_goals(go_ret;exact⟨_,rfl,by assumption,aR.cL (ca _ _),rfl⟩)
  obtain⟨g,rfl⟩:=dX 0 D;have rT:(0:Int)<=(a:Int):=by omega
  have Ee:(a:Int)<=(d:Int):=by omega
  go_enter func135,ntmps135;go_wp2
  all_goals(go_ret;exact⟨_,rfl,by assumption,aR.cL (ca _ _),rfl⟩)
 obtain⟨l,d,rfl,jT,C,r⟩:=bz h;obtain⟨g,rfl⟩:=r 0 (by omega);unfold maxLen at C;obtain⟨p,s,E,N⟩:∃p,w.heap[g]?=some (.cells p 210)/\p.size=d*4/\p.toList.take (a*4)=b:=by
  rcases h.2 with⟨e,_⟩|⟨g',cap,p,e,_,ah,_,_,aj,P⟩
  .cases e
  simp_all
 have Q:=h.1;obtain⟨news,v⟩:∃news,news=b.drop (m*4):=⟨_,rfl⟩;have F:news.length=(a-m)*4:=by rw[v,ly,Q];omega
 have R:∀t,t<d*4->(w.cell? (K g t)).isSome=true:=λt P=>by
  have :t<p.size:=by omega
  simp[World.cell?,s,this]
 have S:=cV s;have U:∀j u,b[j]?=some u->w.cell? (K g j)=some u:=λj u n=>by
  rw[<-N,wq]at n;split at n
  .rw[S1]at n;simp[World.cell?,s,n]
  cases n
 obtain⟨f,hq,sg⟩:∃f:Addr,(if d=m then some ((H g):Addr) else some (K g (m*4)))=some f/\Hq (∀t u,news[t]?=some u->w.drew.cell? (f.add t)=some u):=by
  by_cases W:d=m
  .refine⟨(H g),by simp[W],λt u n=> ?_⟩
   simp_all
  refine⟨(K g (m*4)),by simp[W],λt u n=> ?_⟩;have e:((K g (m*4)):Addr).add t=(K g (m*4+t)):=by unfold Addr.add;split <;>simp_all
  rw[e];rw[v,YY]at n;exact U _ _ n
 have s1:Hq (news.length=(a-m)*4):=F;have s2:Hq (∀u∈news,u.oneCell'=true):=λu n=>z u (by rw[v]at n;exact tS n)
 have s3:Hq (∀t,t<news.length->(w.drew.cell? (K g (0+0*4+t))).isSome=true/\w.drew.frozen? (K g (0+0*4+t))=false):=λt P=>by rw[show 0+0*4+t=t by omega];exact⟨R t (by omega),S t⟩
 obtain⟨q,x⟩:∃q,q=w.drew.setCells g (0+0*4) news:=⟨_,rfl⟩;have y:q.heap[g]?=some (.cells (tv p 0 news) 210):=by rw[x];exact JC news _ w.drew p s
 have X:(tv p 0 news).size=d*4:=(JB _ _ _).trans E;obtain⟨i0,om,hz0,hz1,hz2⟩:=qH (show(prog.info? 210).map (λi=>(i.zero,i.size,i.bytes))=some (some (.agg #[A 0,A 0,A 0,.nilIface]),4,40) by kernel_rfl);have kL:∀I,(Builtin.clear_ #[202] I #[.slice (some (K g ((a-m)*4))) (a-(a-m)) (d-(a-m))]).run prog q=.ok (.tuple #[]) (q.setCells g ((a-m)*4) (Builtin.zeroCells (Value.cells (.agg #[A 0,A 0,A 0,.nilIface])) (a-(a-m))).toList):=λI=>abz q _ _ I _ underlying202 ald (λu n=>S4.1 (show((Builtin.zeroCells (Value.cells (.agg #[A 0,A 0,A 0,.nilIface])) 1).toList.all Value.oneCell')=true by kernel_rfl) u n) g ((a-m)*4) (a-(a-m)) _ (by omega) (λj aB=>by
   have pJ:j<(a-(a-m))*4:=aB;have :(a-m)*4+j<(tv p 0 news).size:=by omega
   simp[World.cell?,y,this]) (λj _=>cV y _)
 have iD:=show aR (λk=>k=g) w q by rw[x];exact(aR.cL (gb _)).trans (JD _ _ _)
 have wA:=y;have iQ:=ag (aN X (aN F (aN E v)));have fk:Hq (q=w.drew.setCells g (0+0*4) news):=x;have hmc:(m:Int)<=(d:Int):=by omega
 have I2:(m:Int)<=(a:Int):=by omega
 have pp:(0:Int)<=(m:Int):=kG _;have rT:(0:Int)<=(a:Int):=kG _;have Ee:(a:Int)<=(d:Int):=by omega
 have hmz:¬(0:Int)=(m:Int):=by omega
 have bI:¬d=a-m:=by omega
 clear x y X R S U F E v Q N s h z r;go_enter func135,ntmps135;have Qt:prog.follows Departure.mixedOrders=true:=by kernel_rfl
 go_wp2_with fail
 go_region_law_o (refine step_append_room rfl (.tmp 22) (.tmp 25) 202 rfl 210 i0 4 underlying202 om hz1 g 0 0 d (by simp[Act.eval,Act.put]) f (a-m) (d-m) news (by simp[Act.eval,Act.put]) s1.o sg.o s2.o (by omega) s3.o ?_;rw[<-fk.o])
 go_wp2;go_ret
 obtain⟨q1,L,wB,Y⟩:=iQ.o;refine⟨_,rfl,⟨by rw[<-Y];exact L,.inr ⟨g,d,_,rfl,b6 _,JC _ _ q _ wA,by omega,by unfold maxLen;omega,?_,?_⟩⟩,?_,rfl⟩
 .rw[JB];exact q1
 .rw[<-L,<-Y];exact aby (by rw[L,wB];omega)
 exact(iD.trans (JD _ _ _)).mono λk e=>by rw[e];rfl
theorem ale {w:World} (h:w.ownsRow 0 101 1 c a b) (y:∀u∈b,u.oneCell'=true) {m:Nat} (hm:m<=a):
  O 133 #[c,A 0,A m] w λe M=>∃z,e=ad z/\M.ownsRow 0 101 1 z (a-m) (b.drop (m*1))/\aR (λj=>c.ownBlock=some j) w M/\z.ownBlock=c.ownBlock:=by
 by_cases X:m=0
 .subst X;obtain⟨l,d,rfl,Y,B,r⟩:=bz h;unfold maxLen at B;have aT:=ag h;have dX:=ag r;clear h y r;rcases S3 a with C|C
  .subst C;cases l with
   |none=>
    go_enter func133,ntmps133;go_wp2
    all_goals go_ret
    all_goals exact⟨_,rfl,by assumption,aR.cL (ca _ _),rfl⟩
   |some oR=>
    obtain⟨g,rfl⟩:∃g,oR=(H g):=by
     rcases aT.o.2 with⟨e,_⟩|⟨g,cap,p,e,_⟩
     .cases e
     simp_all
    go_enter func133,ntmps133;go_wp2
    all_goals go_ret
    all_goals exact⟨_,rfl,by assumption,aR.cL (ca _ _),rfl⟩
  obtain⟨g,rfl⟩:=dX.o 0 C;have rT:(0:Int)<=(a:Int):=by omega
  have Ee:(a:Int)<=(d:Int):=by omega
  go_enter func133,ntmps133;go_wp2
  all_goals(go_ret;exact⟨_,rfl,by assumption,aR.cL (ca _ _),rfl⟩)
 obtain⟨l,d,rfl,Y,B,r⟩:=bz h;obtain⟨g,rfl⟩:=r 0 (by omega);unfold maxLen at B;obtain⟨p,s,D,N⟩:∃p,w.heap[g]?=some (.cells p 101)/\p.size=d*1/\p.toList.take (a*1)=b:=by
  rcases h.2 with⟨e,_⟩|⟨g',cap,p,e,_,ah,_,_,aj,P⟩
  .cases e
  simp_all
 have Hk:=h.1;obtain⟨news,E⟩:∃news,news=b.drop (m*1):=⟨_,rfl⟩;have F:news.length=(a-m)*1:=by simp_all
 have Q:∀t,t<d*1->(w.cell? (K g t)).isSome=true:=λt P=>by
  have :t<p.size:=by omega
  simp[World.cell?,s,this]
 have R:=cV s;have Qs:∀j u,b[j]?=some u->w.cell? (K g j)=some u:=λj u n=>by
  rw[<-N,wq]at n;split at n
  .rw[S1]at n;simp[World.cell?,s,n]
  cases n
 obtain⟨f,hq,sg⟩:∃f:Addr,(if d=m then some ((H g):Addr) else some (K g m))=some f/\Hq (∀t u,news[t]?=some u->w.drew.cell? (f.add t)=some u):=by
  by_cases S:d=m
  .refine⟨(H g),by simp[S],λt u n=> ?_⟩
   simp_all
  refine⟨(K g m),by simp[S],λt u n=> ?_⟩;have e:((K g m):Addr).add t=(K g (m+t)):=by unfold Addr.add;simp
  simp_all
 have s1:Hq (news.length=(a-m)*1):=F;have s2:Hq (∀u∈news,u.oneCell'=true):=λu n=>y u (by rw[E]at n;exact tS n)
 have s3:Hq (∀t,t<news.length->(w.drew.cell? (K g (0+0*1+t))).isSome=true/\w.drew.frozen? (K g (0+0*1+t))=false):=λt P=>by rw[show 0+0*1+t=t by omega];exact⟨Q t (by omega),R t⟩
 obtain⟨q,v⟩:∃q,q=w.drew.setCells g (0+0*1) news:=⟨_,rfl⟩;have x:q.heap[g]?=some (.cells (tv p 0 news) 101):=by rw[v];exact JC news _ w.drew p s
 have U:(tv p 0 news).size=d*1:=(JB _ _ _).trans D;obtain⟨i0,om,hz0,hz1,hz2⟩:=qH (show(prog.info? 101).map (λi=>(i.zero,i.size,i.bytes))=some (some (.pointer none),1,8) by kernel_rfl);have kL:∀I,(Builtin.clear_ #[200] I #[.slice (some (K g (a-m))) (a-(a-m)) (d-(a-m))]).run prog q=.ok (.tuple #[]) (q.setCells g (a-m) (Builtin.zeroCells (Value.cells (.pointer none)) (a-(a-m))).toList):=λI=>abz q _ _ I _ underlying200 UU (λu n=>S4.1 (show((Builtin.zeroCells (Value.cells (.pointer none)) 1).toList.all Value.oneCell')=true by kernel_rfl) u n) g (a-m) (a-(a-m)) _ (by omega) (λj aB=>by
   have pJ:j<(a-(a-m))*1:=aB;have :(a-m)+j<(tv p 0 news).size:=by omega
   simp[World.cell?,x,this]) (λj _=>cV x _)
 have iD:=show aR (λk=>k=g) w q by rw[v];exact(aR.cL (gb _)).trans (JD _ _ _)
 have wA:=x;have iQ:=ag (aN U (aN F (aN D E)));have fk:Hq (q=w.drew.setCells g (0+0*1) news):=v;have hmc:(m:Int)<=(d:Int):=by omega
 have I2:(m:Int)<=(a:Int):=by omega
 have pp:(0:Int)<=(m:Int):=kG _;have rT:(0:Int)<=(a:Int):=kG _;have Ee:(a:Int)<=(d:Int):=by omega
 have hmz:¬(0:Int)=(m:Int):=by omega
 have bI:¬d=a-m:=by omega
 clear v x U Q R Qs F D E Hk N s h y r;go_enter func133,ntmps133;have Qt:prog.follows Departure.mixedOrders=true:=by kernel_rfl
 go_wp2_with fail
 go_region_law_o (refine step_append_room rfl (.tmp 22) (.tmp 25) 200 rfl 101 i0 1 underlying200 om hz1 g 0 0 d (by simp[Act.eval,Act.put]) f (a-m) (d-m) news (by simp[Act.eval,Act.put]) s1.o sg.o s2.o (by omega) s3.o ?_;rw[<-fk.o])
 go_wp2;go_ret
 obtain⟨q1,L,wB,W⟩:=iQ.o;refine⟨_,rfl,⟨by rw[<-W];exact L,.inr ⟨g,d,_,rfl,b6 _,JC _ _ q _ wA,by omega,by unfold maxLen;omega,?_,?_⟩⟩,?_,rfl⟩
 .rw[JB];exact q1
 .have av:a-m=news.length:=by rw[L,xO]
  rw[<-W,av,xO];exact aby (by rw[L,wB];omega)
 exact(iD.trans (JD _ _ _)).mono λk e=>by rw[e];rfl
end
