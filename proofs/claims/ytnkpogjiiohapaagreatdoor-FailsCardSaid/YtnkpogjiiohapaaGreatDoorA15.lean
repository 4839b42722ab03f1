/- Our own text. -/
import Derived.Shelf.Spec.SlicesInsertGrow
import Derived.Deep.RegionLaw
import Derived.Test.YtnkpogjiiohapaaGreatDoorA14
import Derived.Test.YtnkpogjiiohapaaGreatDoorA13
import Derived.Test.YtnkpogjiiohapaaGreatDoorA12
import Derived.Test.YtnkpogjiiohapaaGreatDoorA11
import Derived.Test.YtnkpogjiiohapaaGreatDoorA09
import Derived.Test.YtnkpogjiiohapaaGreatDoorA06
set_option linter.unusedSimpArgs false
set_option linter.unusedVariables false
set_option maxRecDepth 1000000
set_option maxHeartbeats 4000000
namespace Go.Proofs.YtnkpogjiiohapaaGreatDoor
section
open Go.RowKit Go.Proofs Tryz
theorem afM:(prog.info? 210).map (fun i=>(i.zero,i.size,i.bytes))=some (some (.agg #[A 0,A 0,A 0,.nilIface]),4,40):=by kernel_rfl
theorem afN{d b X a:List Value}{n i:Nat}(hF:b.length=n*4)(f:X.length=4)(p:i<n)(q:d=b.take (i*4)++a)(r:(n+1-i)*4<=a.length):
  ∀c,c=d.take (i*4)++X++d.drop (i*4+X.length)->c.length=d.length/\(c.take ((i+1)*4)++b.drop (i*4)++c.drop ((i+1)*4+(b.drop (i*4)).length)).length=d.length/\(c.take ((i+1)*4)++b.drop (i*4)++c.drop ((i+1)*4+(b.drop (i*4)).length)).take ((n+1)*4)=b.take (i*4)++X++b.drop (i*4):=by
 intro c h;have g:(b.take (i*4)).length=i*4:=by rw[aqg];omega
 have j:(b.drop (i*4)).length=(n-i)*4:=by rw[aqA,hF];omega
 have k:d.length=i*4+a.length:=by simp_all
 have l:d.take (i*4)=b.take (i*4):=by simp_all
 have m:c.length=d.length:=by
  rw[h,l];simp only[ap4,aqA,g,f,k];omega
 have o:c.take ((i+1)*4)=b.take (i*4)++X:=by
  rw[h,l];have e:(b.take (i*4)++X).length=(i+1)*4:=by rw[ap4,g,f];omega
  rw[<-e,List.take_left]
 refine⟨m,?_,?_⟩
 ·rw[o];simp only[ap4,aqA,g,f,hF,m,k];omega
 rw[o,arf (by simp only[ap4,g,f,j];omega),aql (by simp only[ap4,g,f,j];omega)]
theorem afO{w:World}{b:Nat}{l:List ar}{y:Array Value}(R:w.heap[b]?=some (.cells y 210 (0,0)))(cr:y.toList.take (l.length*4)=l.flatMap dH)(x:ar)(g:Nat)(S:w.heap[g]?=some (.cells (dH x).toArray 210 (0,0)))(i:Nat)(U:i<l.length)(hl:l.length<=100000):
  O 212 #[.slice (some (H b)) l.length l.length,A i,.slice (some (H g)) 1 1] w fun e W=>∃G,e=.returned (.slice (some (V w 0)) (l.length+1) G)/\fN 0 W (.slice (some (V w 0)) (l.length+1) G) (l.take i++x::l.drop i)/\J w W:=by
 obtain⟨Y,pI,hz0,hzs,H8⟩:=info_parts afM;have s:=qS dH 4 (fun _=>rfl) l;have eX:=aN R;have c9:=aN S;have fI:∀j v,(l.flatMap dH)[j]?=some v->w.cell? (K b j)=some v:=fun j v n=>by
  rw[cell_of_row w b j y 210 (0,0) R];rw[<-cr,art]at n
  simp_all
 have H6:∀v∈l.flatMap dH,v.oneCell'=true:=fun v z=>by
  obtain⟨o,_,af⟩:=aqq.1 z;exact Bp o v af
 have B:i+(l.length+1-i)=l.length+1:=by omega
 have vr:(l.length:Int)+1-(i:Int)=((l.length+1-i:Nat):Int):=by omega
 have hold:(Builtin.firstCells Y.size i (.slice (some (H b)) i l.length)).run prog w.drew=.ok ((l.flatMap dH).take (i*4)).toArray w.drew:=by
  rw[hzs];exact run_firstCells_some w.drew 4 i (H b) i l.length ((l.flatMap dH).take (i*4)) (by rw[aqg,s];omega) (fun j v n=>by
   rw[asg,aqQ];rw[art]at n
   simp_all)
 have C:∀f,(Builtin.append_ #[202,3] f #[.slice (some (H b)) i l.length,A ((l.length:Int)+1-(i:Int))]).run prog w=
   .ok (.slice (some (V w 0)) (l.length+1) (grownCap w (l.length+1) l.length 210)) (w.drew.alloc (.cells (((l.flatMap dH).take (i*4)).toArray++Builtin.zeroCells (Value.agg #[A 0,A 0,A 0,.nilIface]).cells (l.length+1-i)++Builtin.zeroCells (Value.agg #[A 0,A 0,A 0,.nilIface]).cells (grownCap w (l.length+1) l.length 210-(l.length+1))) 210)):=fun f=>by
  have h:=Lib.run_append_grow_zeros (P:=prog) w 202 3 f 210 Y _ .i64 .i64 underlying202 underlying3 pI hz0 (some (H b)) i l.length ((l.flatMap dH).take (i*4)) hold (l.length+1-i) (by omega) (by omega) (by omega) (by omega) (by rw[H8];omega) (by rw[H8,B];exact growslice_fits (by omega) (by omega));rw[B]at h;rw[vr];exact h
 obtain⟨G,t⟩:∃G,G=grownCap w (l.length+1) l.length 210:=⟨_,rfl⟩;have hGn:l.length+1<=G:=by rw[t];exact grownCap_ge w _ _ _
 have aog:G<=9223372036854775807:=by
  have :=grownCap_le_maxLen w (l.length+1) l.length 210 (by unfold maxLen;omega);rw[<-t]at this
  assumption
 rw[<-t]at C;obtain⟨a,P3⟩:∃a:List Value,a=(Builtin.zeroCells (Value.agg #[A 0,A 0,A 0,.nilIface]).cells (l.length+1-i)++Builtin.zeroCells (Value.agg #[A 0,A 0,A 0,.nilIface]).cells (G-(l.length+1))).toList:=⟨_,rfl⟩;obtain⟨c,WD⟩:∃c:Array Value,c=((l.flatMap dH).take (i*4)).toArray++Builtin.zeroCells (Value.agg #[A 0,A 0,A 0,.nilIface]).cells (l.length+1-i)++Builtin.zeroCells (Value.agg #[A 0,A 0,A 0,.nilIface]).cells (G-(l.length+1)):=⟨_,rfl⟩;rw[<-WD]at C;have D:c.toList=(l.flatMap dH).take (i*4)++a:=by simp_all
 have H9:∀k,(Builtin.zeroCells (Value.agg #[A 0,A 0,A 0,.nilIface]).cells k).size=k*4:=fun k=>by
  simp[Builtin.zeroCells,Value.cells]
  try omega
 have WE:a.length=(l.length+1-i)*4+(G-(l.length+1))*4:=by rw[P3];simp[H9]
 have E:c.size=G*4:=by
  have :=congrArg List.length D;rw[ap4,aqg,s,WE]at this;simp only[asv]at this;omega
 have F:((w.alloc (.cells c 210)).drew).heap[w.heap.size]?=some (.cells c 210 (0,0)):=bI w _;have I:=fun k q=>((apY w.heap.size w).alloc (apX _) (.cells c 210)).drew.block k q
 obtain⟨d,L⟩:∃d,d=(c.toList.take (i*4)++dH x++c.toList.drop (i*4+(dH x).length)).toArray:=⟨_,rfl⟩;obtain⟨WG,WH,WI⟩:=afN (X:=dH x) s rfl U D (by omega) d.toList (by rw[L]);have P0:d.size=G*4:=by
  have :d.toList.length=c.toList.length:=WG;simpa[E]using this
 have afP:∀f p,(Builtin.copy_ #[202,202] f #[.slice (some (V w (i*4))) (l.length+1-i) p,.slice (some (H g)) 1 1]).run prog (w.alloc (.cells c 210)).drew=.ok (goInt (1:Nat)) ((w.alloc (.cells c 210)).drew.setRow w.heap.size d):=fun f p=>by
  have r:Nat.min 1 (l.length+1-i)=1:=by simp only[Nat.min_def];split <;>omega
  have :=LZ (P:=prog) (w.alloc (.cells c 210)).drew 202 202 f 210 w.heap.size (i*4) (l.length+1-i) p (H g) 1 1 4 c 210 (dH x) underlying202 H5 F (by rw[r];rfl) (fun j v n=>by
   rw[asg,aqQ,cell_of_row _ g j _ 210 (0,0) ((I g c9).trans S)];simpa using n) (by rw[E];show i*4+4<=_;omega) (Bp x)
  rw[r,<-L]at this;exact this
 have M:(((w.alloc (.cells c 210)).drew.setRow w.heap.size d).drew).heap[w.heap.size]?=some (.cells d 210 (0,0)):=setRow_heap _ _ c d 210 (0,0) F;have N:∀k,k<w.heap.size->(((w.alloc (.cells c 210)).drew.setRow w.heap.size d).drew).heap[k]?=w.heap[k]?:=fun k q=>(setRow_other _ _ k d (by omega)).trans (I k q)
 obtain⟨m,u⟩:∃m,m=(d.toList.take ((i+1)*4)++(l.flatMap dH).drop (i*4)++d.toList.drop ((i+1)*4+((l.flatMap dH).drop (i*4)).length)).toArray:=⟨_,rfl⟩;have hx:((l.flatMap dH).drop (i*4)).length=(l.length-i)*4:=by rw[aqA,s];omega
 have afQ:∀f p Q,(Builtin.copy_ #[202,202] f #[.slice (some (V w ((i+1)*4))) (l.length-i) p,.slice (some (K b (i*4))) (l.length-i) Q]).run prog (((w.alloc (.cells c 210)).drew.setRow w.heap.size d).drew)=.ok (goInt (l.length-i:Nat)) ((((w.alloc (.cells c 210)).drew.setRow w.heap.size d).drew).setRow w.heap.size m):=fun f p Q=>by
  have r:Nat.min (l.length-i) (l.length-i)=l.length-i:=by simp
  have :=LZ (P:=prog) (((w.alloc (.cells c 210)).drew.setRow w.heap.size d).drew) 202 202 f 210 w.heap.size ((i+1)*4) (l.length-i) p (K b (i*4)) (l.length-i) Q 4 d 210 ((l.flatMap dH).drop (i*4)) underlying202 H5 M (by rw[hx,r]) (fun j v n=>by
   rw[asg,aq0 (w:=w) (N b eX)];exact fI _ v (by rwa [List.getElem?_drop]at n)) (by rw[hx,P0];omega) (fun v z=>H6 v (aq8 z))
  rw[r,<-u]at this;exact this
 have zF:((((w.alloc (.cells c 210)).drew.setRow w.heap.size d).drew).setRow w.heap.size m).heap[w.heap.size]?=some (.cells m 210 (0,0)):=setRow_heap _ _ d m 210 (0,0) M;have A5:∀k,k<w.heap.size->((((w.alloc (.cells c 210)).drew.setRow w.heap.size d).drew).setRow w.heap.size m).heap[k]?=w.heap[k]?:=fun k q=>(setRow_other _ _ k m (by omega)).trans (N k q)
 have gE:=aa (show fN 0 ((((w.alloc (.cells c 210)).drew.setRow w.heap.size d).drew).setRow w.heap.size m) (.slice (some (V w 0)) (l.length+1) G) (l.take i++x::l.drop i) from by
  have hlen:(l.take i++x::l.drop i).length=l.length+1:=by simp;omega
  unfold fN;rw[hlen];refine⟨by rw[qS dH 4 (fun _=>rfl),hlen],.inr ⟨w.heap.size,G,m,rfl,apZ _,zF,hGn,by unfold maxLen;omega,?_,?_⟩⟩
  ·rw[u];have :_=c.toList.length:=WH;simpa[E]using this
  rw[Wz U,<-WI,u])
 have aK:=aa (show J w ((((w.alloc (.cells c 210)).drew.setRow w.heap.size d).drew).setRow w.heap.size m) from⟨rfl,rfl,rfl,by rw[setRow_size];show w.heap.size<=((w.alloc (.cells c 210)).drew.setRow w.heap.size d).heap.size;rw[setRow_size];show w.heap.size<=(w.alloc (.cells c 210)).heap.size;simp,A5⟩);have hz2:¬((i:Int)=(l.length:Int)):=by omega
 have hT:IntKind.i64.wrap ((i:Int)+1)=(i:Int)+1:=aqS _ (by omega);have jg:i<=l.length:=by omega
 have Bi:((i:Int)+1).toNat=i+1:=by omega
 have hGi:¬(G=i):=by omega
 have aoh:¬(G=i+1):=by omega
 have hci:¬(l.length=i):=by omega
 have aq:(0:Int)<=(i:Int)+1:=by omega
 have bb:(i:Int)<=(l.length:Int):=by omega
 have gp:(i:Int)<=(l.length:Int)+1:=by omega
 have aoi:(0:Int)<=(i:Int):=aqc _;have mixed:prog.follows .mixedOrders=true:=by kernel_rfl
 clear u L WD P3 t D WE H9 WG WH WI vr B hold fI H6 I N A5 F M zF;go_enter func212,ntmps212;go_wp2_with (first
  |(at_builtin;refine Lib.wpList_append_run _ rfl _ _ _ _ rfl _ _ rfl rfl _ _ (C _) ?_)
  |(at_builtin;refine wpList_copy_runI _ rfl _ _ 202 202 rfl _ _ rfl rfl (afP _ _) ?_))
 go_region_law_o (refine step_copy_runI rfl _ _ 202 202 rfl (.slice (some (V w ((i+1)*4))) (l.length-i) (G-(i+1))) (.slice (some (K b (i*4))) (l.length-i) (l.length-i)) (by simp[Act.eval,Act.put]) (by simp[Act.eval,Act.put]) (afQ _ _ _) ?_)
 go_wp2;go_ret
 exact⟨G,rfl,gE.o,aK.o⟩
theorem afR{w v l}(h:fN 0 w v l)(x:ar)(g:Nat)(o:w.heap[g]?=some (.cells (dH x).toArray 210 (0,0)))(B:v.ownBlock≠some g)(i:Nat)(C:i<=l.length)(p:l.length<=100000):
  O 212 #[v,A i,.slice (some (H g)) 1 1] w fun e d=>∃f,e=.returned f/\fN 0 d f (l.take i++x::l.drop i)/\aO (fun k=>v.ownBlock=some k) w d/\iR w v f:=by
 rcases Nat.eq_or_lt_of_le C with D|s
 ·subst D;have n:∀j u,(dH x)[j]?=some u->w.cell? (K g j)=some u:=fun j u N=>by
   rw[cell_of_row w g j _ 210 (0,0) o]
   simp_all
  refine(afC h x g (n 0 _ rfl) (n 1 _ rfl) (n 2 _ rfl) (n 3 _ rfl) p).mono fun e d a=> ?_
  obtain⟨f,q,t,r,E⟩:=a;refine⟨f,q,?_,aO.r2 r fun k m=>m,E⟩
  simp_all
 rcases h.2 with⟨_,P⟩|⟨b,c,Q,rfl,_,y,R,F,I,z⟩
 ·omega
 unfold maxLen at F;have L:g≠b:=fun e=>B (by rw[e];rfl)
 by_cases M:l.length+1<=c
 ·refine(afI y I z M (by omega) x g o L i s p).mono fun e d a=> ?_
  exact⟨_,a.1,by
   simp_all,a.2.2.mono fun k m=>by rw[m];rfl,.inl rfl⟩
 obtain rfl:c=l.length:=by omega
 refine(afO y z x g o i s p).mono fun e d a=> ?_
 obtain⟨G,q,t,r⟩:=a;exact⟨_,q,t,aO.cJ r,.inr fun k m=>by cases m;simp⟩
end
section
open Go.RowKit Tryz
attribute [local go_sem ↓] Go.wp_at_zero Go.wp_at_succ
variable {a c e f j:Nat}{b d:Value}{h:List Nat}{i:World}
def nX (w:World) (a b c:Nat) (e f:Value) (d:Nat):Prop:=w.heap[a]?=some (.cells #[A b,A c,e,f,Z d] 204 (0,0))
theorem afT{w l}(h:nX w a c e b d f)(B:fN 0 w b l)(x:ar)(n:Nat)(L:n<=l.length)(o8:∀i (hi:i<l.length),i<n->nV l[i].op.id x.op.id<0)(LY:∀i (hi:i<l.length),n<=i->0<nV l[i].op.id x.op.id)(M:l.length<=100000):
  O 189 #[Z a,.agg #[A x.op.id.1,A x.op.id.2,A x.op.nth,.iface x.t x.v]] w fun g C=>∃D,g=.returned (A n)/\nX C a c e D d f/\fN 0 C D (l.take n++x::l.drop n)/\iR w b D/\aO (fun k=>k=a\/b.ownBlock=some k) w C:=by
 have N:=h;have o5:=show(l.take n++x::l.drop n).length=l.length+1 by simp;omega
 obtain⟨bf,a6,s,bZ,ee⟩:=gb h;have Hg:=aN h;obtain⟨P,Q,R,U⟩:=ym w (A x.op.id.1) (A x.op.id.2) (A x.op.nth) (.iface x.t x.v) 210;have y:=(apY w.heap.size w).alloc (apX _) (.cells #[A x.op.id.1,A x.op.id.2,A x.op.nth,.iface x.t x.v] 210);have jL:=fun W (a:J w W)=>afD (c7 B a) x n L o8 LY M
 obtain⟨j,m,rfl,jq,cZ,aD⟩:=bm B;unfold maxLen at cZ;have E:=B;replace s:=ae y s;go_enter func189,ntmps189;go_wp2_with fail
 go_region_held3 (fun W=>W.cell? (K a 2)=some (.slice j l.length m)/\W.cell? (V w 0)=some (A x.op.id.1)/\W.cell? (V w 1)=some (A x.op.id.2)/\W.cell? (V w 2)=some (A x.op.nth)/\W.cell? (V w 3)=some (.iface x.t x.v)) (go_keep)
  (first
   |(go_at_call 210;refine(jL _ y.drew).mono ?_;rintro g p ⟨rfl,aq⟩;have q:=Hq.o (mx aq);replace s:=ae q s;replace P:=ae q P;replace Q:=ae q Q;replace R:=ae q R;replace U:=ae q U;have r:=y.trans (q.mono y.size)))
 have z:=((apY p.heap.size p).alloc (apX _) (.cells #[A x.op.id.1,A x.op.id.2,A x.op.nth,.iface x.t x.v] 210)).drew;have cW:=afR (w:=(p.alloc (.cells #[A x.op.id.1,A x.op.id.2,A x.op.nth,.iface x.t x.v] 210)).drew) (c7 (c7 E r) z) x p.heap.size (bI p _) (fun g=>by have :=(ap1 (c7 E r) _ g).2;omega) n L M;have iA:=(aO.cJ (S:=fun k=>k=a\/(Value.slice j l.length m).ownBlock=some k) r).trans (aO.cJ z);have X:=bj (bj N r) z;have bp:(Value.slice j l.length m).ownBlock≠some a:=fun g=>by
  obtain⟨cur,F⟩:=bq E g;exact absurd (bK F N) (by decide)
 have kf:=bp;have hz1:=r.size;have gv:=World.new_ne p (K a 2) s;have aoj:a<p.heap.size:=by omega
 have df:(0:Int)<=(n:Int):=by simp
 go_wp2_with fail
 go_region_with (first
  |(go_at_call 212;refine cW.mono ?_;rintro g w2 ⟨v',rfl,iv,Y,jJ⟩;have I:=iv;have iy:=iA.trans (Y.mono (fun k hk=>.inr hk));have u:=(Y.other a (aN X) kf).trans X;have tP:=jJ;obtain⟨ky,b7,wU,aok,WJ,vy⟩:=bm I;rw[o5]at wU;subst wU;have c2':=(gb u).2.2.1;have kK:=cG u 2;have aY:=aN u))
 all_goals go_wp2
 all_goals go_ret
 all_goals
  have P6:(Value.slice ky (l.length+1) b7).ownBlock≠some a:=fun g=>by
   obtain⟨cur,F⟩:=bq I g;exact absurd (bK F u) (by decide)
  refine⟨.slice ky (l.length+1) b7,rfl,?_,iV I P6 _,tP.mono ?_,iy.trans (aO.kU _ (.inl rfl))⟩
  ·exact afL u
  exact ap0 r.size z.size
theorem P7(k:Nat):∀u∈iI k,u.oneCell'=true:=by
 intro u a;simp[iI]at a;subst a;rfl
theorem P8{w:World}{g:Nat}(c:w.cell? (H g)=some (Z a)):∀j u,(iI a)[j]?=some u->w.cell? (K g j)=some u:=by
 intro j u b
 match j with
 |0=>simp[iI]at b;simp_all
 |j+1=>contradiction
theorem WK{w:World}{g:Nat}{t:TypeId}{f:Nat×Nat}(h:w.heap[g]?=some (.cells #[b] t f)):w.cell? (H g)=some b:=by simp[World.cell?,h]
theorem cz.kept{S w y z}(h:cz w a c e y z)(B:aO S w i)(C:∀k,S k->∃d t f,w.heap[k]?=some (.cells d t f)/\t≠174):cz i a c e y z:=by
 have n:∀(b:Nat) (j:Array MapEntry) (l:Nat),w.heap[b]?=some (.map j l)->i.heap[b]?=w.heap[b]?:=fun b j l D=>B.other b (aN D) fun u=>by
  obtain⟨d,t,f,o,_⟩:=C b u;rw[D]at o;cases o
 have r:∀v x,iG w v x->iG i v x:=fun v x r=>by
  refine r.imp id ?_;rintro⟨b,j,l,g,m⟩;exact⟨b,j,l,g,m.gJ (n b _ _ m.blk)⟩
 obtain⟨j,l,E⟩:=h.af;obtain⟨I,L,F⟩:=h.he;refine⟨?_,⟨j,l,E.gJ (n _ _ _ E.blk)⟩,⟨I,L,F.gJ (n _ _ _ F.blk)⟩,fun p s=>⟨?_,fun q M=>r _ _ ((h.hk p s).2 q M)⟩,fun p s=>r _ _ (h.aF p s)⟩
 ·rw[B.other a (aN h.ai) fun u=> ?_]
  ·exact h.ai
  obtain⟨d,t,f,o,N⟩:=C a u;exact N (bK o h.ai)
 refine(h.hk p s).1.imp id ?_;rintro⟨b,j,l,g,m⟩;exact⟨b,j,l,g,m.gJ (n b _ _ m.blk)⟩
theorem vw.ae{w c q}{w':World}(h:vw w c q)(d:J w w'):vw w' c q:=by
 rcases q with l|⟨x,b⟩|⟨o,key,x,g,f⟩|⟨o,key,x,f⟩
 ·exact h
 ·exact h
 ·obtain⟨s,e,a⟩:=h;exact⟨s,e,c7 a d⟩
 obtain⟨s,e,a⟩:=h;exact⟨s,e,c7 a d⟩
theorem LV.ae{w g i o}{w':World}(h:LV w g i o)(a:J w w'):LV w' g i o:=by
 obtain⟨b,d,e,c,f,j⟩:=h;exact⟨Go.Proofs.YtnkpogjiiohapaaGreatDoor.ae a b,Go.Proofs.YtnkpogjiiohapaaGreatDoor.ae a d,Go.Proofs.YtnkpogjiiohapaaGreatDoor.ae a e,c,Go.Proofs.YtnkpogjiiohapaaGreatDoor.ae a f,j.ae a⟩
theorem P9{w sp su}(h:nX w a sp su b d c)(k:Nat)(g:k<=10000)(i:sp<=50)(p:su<=50):
  O 132 #[Z a,A k] w fun e j=>e=.returned (A ((k*sp-su:Nat):Int))/\J w j:=by
 obtain⟨q,r,l,n,ee⟩:=gb h;clear l n ee;have o:=Nat.mul_le_mul g i;obtain⟨m,f⟩:∃m:Nat,m=k*sp:=⟨_,rfl⟩;have s:(k:Int)*(sp:Int)=(m:Int):=by omega
 rw[<-f]at o⊢;clear f;go_enter func132,ntmps132;go_wp2_with fail
 go_region
 all_goals go_wp2
 all_goals go_ret
 all_goals
  refine⟨?_,(apY _ w).drew⟩;show Ending.returned (A (max 0 ((m:Int)-(su:Int))))=_;rw[show max (0:Int) ((m:Int)-(su:Int))=((m-su:Nat):Int) by omega]
theorem WL(h:nX i e a c b d f)(k:Nat)(l:k<=10000)(m:1<=a)(n:a<=50)(o:c<=50):
  O 131 #[Z e,A k] i fun g j=>g=.returned (A (((c+k)/a:Nat):Int))/\J i j:=by
 obtain⟨p,q,r,s,ee⟩:=gb h;have t:¬((a:Int)=0):=by omega
 have u:¬(a=0):=by omega
 have v:(c+k)/a<=c+k:=Nat.div_le_self _ _;go_enter func131,ntmps131;go_wp2_with fail
 go_region
 all_goals go_wp2
 all_goals go_ret
 all_goals
  refine⟨?_,(apY _ i).drew⟩;show Ending.returned (A (((c:Int)+(k:Int))/(a:Int)))=_;rw[show((c:Int)+(k:Int))/(a:Int)=(((c+k)/a:Nat):Int) by simp]
theorem WM{g:Nat}(d:um 0 i (.slice (some (H g)) a c) h)(b:Nat)(j:b<h.length):i.cell? (K g b)=some (Z (h[b])):=by
 have l:a=h.length:=by
  rcases d.2 with⟨e,_⟩|⟨m,n,o,e,_⟩
  ·omega
  simp_all
 subst l;have :=ir (f:=iI) (k:=1) (fun _=>rfl) d rfl b j 0 (by omega);simpa[iI]using this
theorem WN{w:World}{g:Nat}{c a e u:Value}{t:TypeId}(h:w.heap[g]?=some (.cells #[b,d,c,a,e] t (0,0))):(w.setCell (K g 4) u).heap[g]?=some (.cells #[b,d,c,a,u] t (0,0)):=by
 obtain⟨f,i⟩:=ap8.1 h;simp[World.setCell,f,aq5,i]
theorem afU{P:Program}(w:World)(t e b:TypeId)(z:Value)(d:P.underlying t=some (.slice e))(f:∀w,(zeroValue e).run P w=.ok z w)(a:Option Addr)(c:Nat):(Builtin.clear_ #[t] b #[.slice a 0 c]).run P w=.ok (.tuple #[]) w:=by
 cases a<;>simp[Builtin.clear_,run_underlying d,f,Builtin.zeroCells,storeCells]
theorem WO(w:World):(zeroValue 101).run prog w=.ok (.pointer none) w:=by kernel_rfl
theorem afV{w sp su}(l:nX w a sp su d b e)(t:um 0 w b h)(k:Nat)(hk:k<=9000)(hS:1<=sp)(Q:sp<=50)(R:su<=50)(L:Nat)(U:(su+k)/sp=L)(X:L+1=h.length)(hx:h[L]?=some c){D:cX}(Y:cz w c f j D.1 D.2):
  O 190 #[Z a,A k] w fun i B=>∃p r s,i=.returned (A ((L*sp-su:Nat):Int))/\nX B a sp su d b p/\cz B p r s D.1 D.2/\(w.heap.size<=p/\w.heap.size<=r/\w.heap.size<=s/\r≠s)/\aO (fun k=>k=a) w B:=by
 have Ib:=aa (WL l k (by omega) hS Q R);rw[U]at Ib;have hL1:L<=su+k:=by rw[<-U];exact Nat.div_le_self _ _
 obtain⟨U9,Ic⟩:=arB.1 hx;obtain⟨n,m,rfl,jq,cZ,aD⟩:=bm t;unfold maxLen at cZ;obtain⟨g,rfl⟩:=aD L (by omega);have C:=WM t L (by omega);rw[Ic]at C;have aP:=aa l;obtain⟨bf,a6,bc,bZ,ee⟩:=gb l;clear bf a6 bc ee aD;go_enter func190,ntmps190;go_wp2_with fail
 refine Ib.o.mono ?_;rintro i E ⟨rfl,q⟩;have d3:=ae q bZ;have Qa:=ae q C;have ay:=aa q;have afW:=fun ky b7 ty=>afU (P:=prog) E 200 101 ty (.pointer none) underlying200 WO ky b7
 have hL0:(0:Int)<=(L:Int):=by simp
 have v:=X.symm;rw[v]at d3 jq;have sX:=aa v;have hLc:¬(m<L+1):=by omega
 have DI:g≠a:=fun i=>by
  obtain⟨cur,hc⟩:=bq t (g:=g) rfl;rw[i]at hc;exact absurd (bK hc l) (by decide)
 have x:=bj l q;have mR:=cG x 3;have Ie:m≠L+1\/m=L+1:=by omega
 have dd:=aa (fun W (aG:aO (fun k=>k=a) w W)=>PS (Y.kept aG (fun k i=>⟨_,_,_,i▸aP.o,by decide⟩)));have F:=aa (show aO (fun k=>k=a) w (E.setCell (K a 3) (.slice (some (H g)) (L+1) m)) from(aO.cJ q).trans (aO.kU _ rfl));rw[v]at x;have cB:=aa (P2 (u:=.slice (some (H g)) (L+1) m) x);have aw:(E.setCell (K a 3) (.slice (some (H g)) (L+1) m)).cell? (K g L)=some (Z c):=by
  simp only[World.cell?];rw[dy DI]
  assumption
 clear q X v bZ C l t Y x;rcases Ie with Ie|rfl
 all_goals go_wp2_with (first
  |(go_at_call 213;refine(dd.o _ F.o).mono ?_;rintro i w3 ⟨⟨p,r,s,rfl,yo,Bt,Bu,Bv,Bw⟩,I⟩;have zG:=aa yo;have bB:=aa I;have y:=aa (And.intro Bt (And.intro Bu (And.intro Bv Bw)));have z:=aa (bj cB.o I);have zH:=cG z.o 4;have ee:=(gb z.o).2.2.2.2;clear yo I Bt Bu Bv Bw))
 all_goals
  have fO:=aa (WN (u:=Z p) z.o);have tb:=aa (zG.o.kept (aO.kU (S:=fun k=>k=a) (w:=w3) (g:=a) (o:=4) (Z p) rfl) (fun k i=>⟨_,_,_,i▸z.o,by decide⟩));have Be:=aa ((F.o.trans (aO.cJ bB.o)).trans (aO.kU (S:=fun k=>k=a) (w:=w3) (g:=a) (o:=4) (Z p) rfl));have Qb:=aa (P9 (su:=su) (sp:=sp) fO.o L (by omega) Q R);refine Qb.o.mono ?_;rintro i w5 ⟨rfl,q6⟩;have M:=aa q6;clear q6;go_wp2;go_ret
  have N:=F.o.size;refine⟨p,r,s,rfl,?_,tb.o.ae M.o,⟨ap0 N y.o.1,ap0 N y.o.2.1,ap0 N y.o.2.2.1,y.o.2.2.2⟩,Be.o.trans (aO.cJ M.o)⟩;have :=bj fO.o M.o;unfold nX;rw[sX.o];exact this
theorem afX{P:Program}(w:World)(t e d:TypeId)(z:Value)(f:P.underlying t=some (.slice e))(h:∀w,(zeroValue e).run P w=.ok z w)(j:z.cells= #[z])(k:z.oneCell'=true)(g o n c:Nat)(r:0<n)(a:Array Value)(b:TypeId)(l:w.heap[g]?=some (.cells a b (0,0)))(s:o+n<=a.size):
  (Builtin.clear_ #[t] d #[.slice (some (K g o)) n c]).run P w=.ok (.tuple #[]) (w.setRow g (a.toList.take o++List.replicate n z++a.toList.drop (o+n)).toArray):=by
 have p:(Builtin.zeroCells z.cells n).toList=List.replicate n z:=by
  rw[j];simp[Builtin.zeroCells];apply arF
  ·simp
  intro i k u;simp[Nat.mod_one]
 have q:=run_storeCells_at P g o b (List.replicate n z) 0 a w l (by simp_all) (by simp_all);obtain⟨m,rfl⟩:∃m,n=m+1:=⟨n-1,by omega⟩;simp[Builtin.clear_,run_underlying f,h,p,q]
theorem afY{w sp su}(n:nX w a sp su d b e)(z:um 0 w b h)(k:Nat)(I:k<=9000)(hS:1<=sp)(ad:sp<=50)(wV:su<=50)(L:Nat)(cv:(su+k)/sp=L)(hl:L+1<h.length)(hx:h[L]?=some c){D:cX}(ak:cz w c f j D.1 D.2):
  O 190 #[Z a,A k] w fun i M=>∃g l r B C,b.ownBlock=some g/\i=.returned (A ((L*sp-su:Nat):Int))/\nX M a sp su d (.slice (some (H g)) (L+1) l) r/\um 0 M (.slice (some (H g)) (L+1) l) (h.take (L+1))/\cz M r B C D.1 D.2/\(w.heap.size<=r/\w.heap.size<=B/\w.heap.size<=C/\B≠C)/\aO (fun k=>k=a\/b.ownBlock=some k) w M:=by
 have Ib:=aa (WL n k (by omega) hS ad wV);rw[cv]at Ib;have hL1:L<=su+k:=by rw[<-cv];exact Nat.div_le_self _ _
 obtain⟨U9,Ic⟩:=arB.1 hx;obtain⟨p,l,rfl,jq,cZ,aD⟩:=bm z;unfold maxLen at cZ;obtain⟨g,rfl⟩:=aD L (by omega);have Y:=WM z L (by omega);rw[Ic]at Y;have aP:=aa n;obtain⟨bf,a6,bc,bZ,ee⟩:=gb n;go_enter func190,ntmps190;go_wp2_with fail
 refine Ib.o.mono ?_;rintro i y ⟨rfl,v⟩;have d3:=ae v bZ;have Qa:=ae v Y;have ay:=aa v;obtain⟨s,x⟩:=bq z (g:=g) rfl;have E:g≠a:=fun i=>by
  rw[i]at x;exact absurd (bK x n) (by decide)
 obtain⟨gB,WQ⟩:s.size=l/\s.toList.take h.length=h.flatMap iI:=by
  rcases z.2 with⟨i,_⟩|⟨g',N,hv,i,_,gj,_,_,ie,Qc⟩
  ·simp at i
  simp only[aqn,aqo,aqx,and_true,true_and]at i;obtain⟨rfl,rfl⟩:=i;rw[x]at gj;cases gj;exact⟨by omega,by simpa using Qc⟩
 have P:=(v.block g (aN x)).trans x;obtain⟨m,F⟩:∃m,m=(s.toList.take (L+1)++List.replicate (h.length-(L+1)) (Value.pointer none)++s.toList.drop (L+1+(h.length-(L+1)))).toArray:=⟨_,rfl⟩;obtain⟨q,t⟩:∃q,q=y.setRow g m:=⟨_,rfl⟩;have afW:∀N ty,(Builtin.clear_ #[200] ty #[.slice (some (K g (L+1))) (h.length-(L+1)) N]).run prog y=.ok (.tuple #[]) q:=fun N ty=>by
  rw[t,F];exact afX y 200 101 ty (.pointer none) underlying200 WO rfl rfl g (L+1) (h.length-(L+1)) N (by omega) s 101 P (by omega)
 have Qd:q.heap[g]?=some (.cells m 101 (0,0)):=by rw[t];exact setRow_heap _ _ s m _ _ P
 have Q:∀k,k≠g->q.heap[k]?=y.heap[k]?:=fun k I=>by rw[t];exact setRow_other _ _ k m I
 have WR:m.size=l:=by rw[F];simp;omega
 have WS:m.toList.take (L+1)=(h.take (L+1)).flatMap iI:=by
  have aj:s.toList.take (L+1)=(h.take (L+1)).flatMap iI:=by
   have cC:h.flatMap iI=(h.take (L+1)).flatMap iI++(h.drop (L+1)).flatMap iI:=by rw[<-aqG,arI]
   have ax:((h.take (L+1)).flatMap iI).length=L+1:=by rw[qS iI 1 (fun _=>rfl),aqg];omega
   have :=congrArg (List.take (L+1)) WQ;rw[arG,cC]at this;rw[show min (L+1) h.length=L+1 by omega]at this;rw[this];rw[arf (by rw[ax];exact apX _),aql (by rw[ax];exact apX _)]
  rw[F];simp only[aqs];rw[arf (by rw[aqg];simp;omega),arG,Nat.min_self];exact aj
 have uo:aO (fun k=>k=a\/(Value.slice (some (H g)) h.length l).ownBlock=some k) w q:=by
  refine(aO.cJ v).trans ⟨by rw[t];rfl,by rw[t];rfl,by rw[t];rfl,by rw[t,setRow_size];exact apX _,fun k _ I=>Q k fun i=>I (.inr (by rw[i];rfl))⟩
 have d3':q.cell? (K a 3)=some (.slice (some (H g)) h.length l):=by
  rw[aq0 (w:=y) (Q a (aqa E))];exact d3
 have dL':q.cell? (K g L)=some (Z c):=by
  have :m[L]?=some (Z c):=by
   have h1:(m.toList.take (L+1))[L]?=s.toList[L]?:=by
    rw[F];simp only[aqs];rw[arf (by rw[aqg];simp;omega),arG,Nat.min_self,art,if_pos (by omega)]
   have h2:(m.toList.take (L+1))[L]?=m[L]?:=by rw[art,if_pos (by omega)];simp
   rw[<-h2,h1];have :=Qa;rw[cell_of_row y g L s _ _ P]at this;simpa using this
  rw[cell_of_row q g L m _ _ Qd];exact this
 have hL0:(0:Int)<=(L:Int):=aqc _;have WT:(L:Int)+1<=(h.length:Int):=by omega
 have Ie:¬(l=L+1):=by omega
 have Bs:q.heap[a]?=_:=(Q a (aqa E)).trans (bj n v);have mR:=cG Bs 3;have dd:=aa (fun W (aG:aO (fun k=>k=a\/(Value.slice (some (H g)) h.length l).ownBlock=some k) w W)=>PS (ak.kept aG (fun k i=>by
  rcases i with rfl|i
  ·exact⟨_,_,_,aP.o,by decide⟩
  cases i;exact⟨_,_,_,x,by decide⟩)))
 have iA:=aa (show aO (fun k=>k=a\/(Value.slice (some (H g)) h.length l).ownBlock=some k) w (q.setCell (K a 3) (.slice (some (H g)) (L+1) l)) from uo.trans (aO.kU _ (.inl rfl)));have cB:=aa (P2 (u:=.slice (some (H g)) (L+1) l) Bs);have dN:=aa (show(q.setCell (K a 3) (.slice (some (H g)) (L+1) l)).heap[g]?=some (.cells m 101 (0,0)) by rw[dy E];exact Qd);have aw:(q.setCell (K a 3) (.slice (some (H g)) (L+1) l)).cell? (K g L)=some (Z c):=by
  rw[aq0 (w:=q) (dy E)];exact dL'
 have FO:=aa (And.intro WR WS);have HGH:=aa E;have afZ:L+1<=l:=by omega
 clear v bZ Y n z ak Bs t F WR WS uo Q Qd P gB WQ x Qa;go_wp2_with (first
  |(go_at_call 213;refine(dd.o _ iA.o).mono ?_;rintro i w3 ⟨⟨r,B,C,rfl,yo,Bt,Bu,Bv,Bw⟩,bb⟩;have zG:=aa yo;have bB:=aa bb;have R:=aa (And.intro Bt (And.intro Bu (And.intro Bv Bw)));have U:=aa (bj cB.o bb);have zH:=cG U.o 4;have ee:=(gb U.o).2.2.2.2;clear yo bb Bt Bu Bv Bw))
 have nw:=aa (bj dN.o bB.o);have fO:=aa (WN (u:=Z r) U.o);have tb:=aa (zG.o.kept (aO.kU (S:=fun k=>k=a\/(Value.slice (some (H g)) h.length l).ownBlock=some k) (w:=w3) (g:=a) (o:=4) (Z r) (.inl rfl)) (fun k i=>by
  rcases i with rfl|i
  ·exact⟨_,_,_,U.o,by decide⟩
  cases i;exact⟨_,_,_,nw.o,by decide⟩))
 have Be:=aa ((iA.o.trans (aO.cJ bB.o)).trans (aO.kU (S:=fun k=>k=a\/(Value.slice (some (H g)) h.length l).ownBlock=some k) (w:=w3) (g:=a) (o:=4) (Z r) (.inl rfl)));have Qb:=aa (P9 (su:=su) (sp:=sp) fO.o L (by omega) ad wV);refine Qb.o.mono ?_;rintro i w5 ⟨rfl,q6⟩;have X:=aa q6;clear q6;go_wp2;go_ret
 have hsz:=iA.o.size;have Qe:=bj (w:=w3.setCell (K a 4) (Z r)) ((dy HGH.o).trans nw.o) X.o;refine⟨g,l,r,B,C,rfl,rfl,bj fO.o X.o,?_,tb.o.ae X.o,⟨ap0 hsz R.o.1,ap0 hsz R.o.2.1,ap0 hsz R.o.2.2.1,R.o.2.2.2⟩,Be.o.trans (aO.cJ X.o)⟩;have hlen:(h.take (L+1)).length=L+1:=by rw[aqg];omega
 unfold um;rw[hlen];exact⟨by rw[qS iI 1 (fun _=>rfl),hlen],.inr ⟨g,l,m,rfl,apZ _,Qe,afZ,by unfold maxLen;omega,by rw[FO.o.1];omega,by rw[arn];exact FO.o.2⟩⟩
end
section
open Go.RowKit Tryz
variable {a:List bg}{b:bg}{c h:PId}{d:cX}{e:bH}{f l:ByteArray}{i:eO}{j:List (PId×dR)}{k:Nat}
theorem key_inj(h:f.toList=l.toList):f=l:=by
 rw[<-asp,beq_toListBytes,h];simp
def bt (R:List bg) (x:PId):Option bg:=R.find? (jw x)
def mW (h:cP):PId×dU:=(h.cQ,valOf h)
theorem FP:jw c b=true↔b.id=c:=by
 unfold jw;rw[CL]
theorem Qf(h:bt a c=some b):b.id=c:=FP.1 (arO h)
theorem af0(h:bt a c=some b):b∈a:=arz h
theorem h4 {κ ν:Type} [DecidableEq κ] (x y:κ) (v:ν) (m:List (κ×ν)):bC y (cE x v m)=if y=x then some v else bC y m:=by
 induction m with
 |nil=>by_cases h:y=x<;>simp[cE,bC,h]
 |cons p m ih=>
  unfold cE;by_cases a:x=p.1
  ·rw[if_pos a];by_cases h:y=x
   ·simp[bC,h]
   simp[bC,h,a▸h]
  rw[if_neg a];by_cases b:y=p.1
  ·have h:¬y=x:=fun e=>a (e▸b)
   simp[bC,b,aqa a]
  have c:bC y (p::cE x v m)=bC y (cE x v m):=by simp[bC,b]
  have d:bC y (p::m)=bC y m:=by simp[bC,b]
  simp_all
theorem af1 {κ ν:Type} [DecidableEq κ] {x:κ} {m:List (κ×ν)} (h:x∉m.map (·.1)):bC x m=none:=by
 unfold bC;rw[Option.map_eq_none_iff,arw];intro p a;simp;intro e
 simp_all
theorem FQ {κ ν:Type} [DecidableEq κ] {x:κ} {v:ν}:∀{m:List (κ×ν)},(m.map (·.1)).Nodup->(x,v)∈m->bC x m=some v
 |[],_,h=>by cases h
 |p::m,a,h=>by
  simp only[aqj,aqw]at a;rcases aqb.1 h with h|h
  ·subst h;simp[bC]
  have b:¬x=p.1:=fun e=>a.1 (e▸ap5.2 ⟨_,h,rfl⟩)
  have :=FQ a.2 h;simpa[bC,b]using this
theorem af2 {κ ν:Type} [DecidableEq κ] {x:κ} {m a:List (κ×ν)} (b:m.Perm a) (c:(a.map (·.1)).Nodup):bC x m=bC x a:=by
 cases h:bC x a with
 |some v=>exact FQ ((b.map (·.1)).nodup_iff.2 c) (b.mem_iff.2 (fL h))
 |none=>
  cases d:bC x m with
  |none=>rfl
  |some v=>rw[FQ c (b.mem_iff.1 (fL d))]at h;cases h
theorem WU {κ ν:Type} [DecidableEq κ] {x:κ} {v:ν}:∀{m:List (κ×ν)},x∉m.map (·.1)->cE x v m=m++[(x,v)]
 |[],_=>rfl
 |p::m,h=>by
  simp only[aqj,aqb,not_or]at h;unfold cE;rw[if_neg h.1,WU h.2];rfl
theorem af3 {α:Type} {p q:α->Bool} {f:α->α} {l:List α} {k:Nat} (b:l.findIdx? p=some k) (e:∀o,q (f o)=q o):(l.modify k f).find? q=match l.find? q with |none=>none|some o=>if l.findIdx? q=some k then some (f o) else some o:=by
 induction l generalizing k with
 |nil=>simp at b
 |cons a l ih=>
  rw[asB]at b;by_cases c:p a=true
  ·rw[if_pos c]at b;cases b;simp only[asC,arK,e,asB];cases g:q a
   ·simp;cases l.find? q<;>simp
   simp
  rw[if_neg c]at b;cases d:l.findIdx? p with
  |none=>rw[d]at b;cases b
  |some j=>
   rw[d]at b;cases b;simp only[asD,arK,asB];cases g:q a
   ·simp_all
   simp
theorem Ig {α:Type} {p:α->Bool} {l:List α}:cM p l<0↔l.find? p=none:=by
 unfold cM;rw[arw];cases h:l.findIdx? p with
 |none=>rw[ar1]at h;simpa using h
 |some k=>
  simp only;constructor
  ·omega
  intro a;obtain⟨b,c,_⟩:=arA.1 h
  simp_all
theorem L2 {α:Type} {p:α->Bool} {l:List α} (h:¬cM p l<0):l.findIdx? p=some (cM p l).toNat:=by
 unfold cM at *;cases a:l.findIdx? p with
 |none=>rw[a]at h;simp at h
 |some k=>simp
theorem af4 {α:Type} {p q:α->Bool} {l:List α} {o:α} (a:l.findIdx? p=some k) (b:l.findIdx? q=some k) (e:l.find? p=some o):q o=true:=by
 obtain⟨c,d,f⟩:=arA.1 a;obtain⟨_,g,_⟩:=arA.1 b;have :l.find? p=some l[k]:=by
  rw[ar5];exact⟨d,k,c,rfl,fun j h=>by simp_all⟩
 simp_all
theorem af5(p:bH)(o:bg):(gq p o).id=o.id:=by
 unfold gq;split <;>split <;>rfl
theorem af6(p:bH)(y:PId)(o:bg):jw y (gq p o)=jw y o:=by unfold jw;rw[af5]
theorem Bx(g:e.kind≠1)(y:PId):bt (cc a e) y=if y=e.object then(bt a y).map (gq e) else bt a y:=by
 unfold cc;rw[if_neg g];by_cases c:cM (jw e.object) a<0
 ·rw[if_pos c];split
  ·rename_i b;subst b;unfold bt;rw[Ig.1 c];rfl
  rfl
 rw[if_neg c];have d:=L2 c;unfold bt;rw[af3 d (af6 e y)];by_cases b:y=e.object
 ·subst b;rw[if_pos rfl];cases a.find? (jw e.object) with
  |none=>rfl
  |some o=>simp[d]
 rw[if_neg b];cases f:a.find? (jw y) with
 |none=>rfl
 |some o=>
  simp only;rw[if_neg];intro h;exact b ((FP.1 (arO f)).symm.trans (FP.1 (af4 h d f)))
theorem yp(b:e.kind=1)(y:PId):bt (cc a e) y=match bt a y with |some o=>some o|none=>if y=e.id then some ⟨e.id,e.list,[]⟩ else none:=by
 unfold cc bt;rw[if_pos b,List.find?_append];cases a.find? (jw y) with
 |some o=>rfl
 |none=>
  by_cases h:y=e.id
  ·subst h;simp[jw,eF]
  have :jw y ⟨e.id,e.list,[]⟩=false:=by
   cases c:jw y ⟨e.id,e.list,[]⟩
   ·rfl
   exact absurd (FP.1 c).symm h
  simp_all
theorem pb{key:ByteArray}{x:PId}{s:b9}:fk key x s=true↔s.key=key/\s.id=x:=by
 unfold fk;rw[Bool.and_eq_true,CL,beq_iff_eq];exact⟨fun h=>⟨key_inj h.1,h.2⟩,fun h=>⟨by rw[h.1],h.2⟩⟩
def rb (key:ByteArray) (x:PId) (old:List PId) (kind:Int) (y:cP) (s:b9):b9:=if fk key x s then⟨s.key,s.id,jt old s.ad kind y⟩ else s
theorem L3{l:List b9}{o:Bool}{key:ByteArray}{x:PId}{old:List PId}{kind:Int}{y:cP}(e:l.Pairwise fun a b=>¬(a.key=b.key/\a.id=b.id)){s:b9}(p:s∈l)(h:fk key x s=true):lx l o key x old kind y=l.map (rb key x old kind y):=by
 unfold lx;have f:¬cM (fk key x) l<0:=fun q=>by
  rw[Ig,arw]at q
  simp_all
 rw[if_neg f];have c:=L2 f;generalize(cM (fk key x) l).toNat=k at c;clear f p h s
 induction l generalizing k with
 |nil=>simp at c
 |cons a l ih=>
  rw[aqU]at e;rw[asB]at c;by_cases d:fk key x a=true
  ·rw[if_pos d]at c;cases c;simp only[asC,aqj];congr 1
   ·unfold rb;simp_all
   symm
   refine(arx (g:=id) fun b r=> ?_).trans (List.map_id l);show _=b;unfold rb;rw[if_neg];intro t;have m:=pb.1 d;have n:=pb.1 t;exact e.1 b r ⟨m.1.trans n.1.symm,m.2.trans n.2.symm⟩
  rw[if_neg d]at c;cases i:l.findIdx? (fk key x) with
  |none=>rw[i]at c;cases c
  |some j=>
   rw[i]at c;cases c;simp only[asD,aqj];rw[ih e.2 j i];congr 1;unfold rb;rw[if_neg d]
theorem Qg{l:List b9}{key:ByteArray}{x:PId}{old:List PId}{kind:Int}{y:cP}(h:∀s∈l,fk key x s=false):lx l false key x old kind y=l++[⟨key,(0,0),jt old [] kind y⟩]:=by
 unfold lx;rw[if_pos (Ig.2 (arw.2 fun s a=>by simp_all))];rfl
theorem L4{key:ByteArray}{x:PId}{old:List PId}{kind:Int}{y:cP}(s:b9):(rb key x old kind y s).id=s.id:=by unfold rb;split <;>rfl
theorem L5{key:ByteArray}{x:PId}{old:List PId}{kind:Int}{y:cP}(s:b9):(rb key x old kind y s).key=s.key:=by unfold rb;split <;>rfl
structure yq (ba:List (PId×dR)) (x:PId) (o:bg) (aV:eO):Prop where
 list:aV.list=o.list
 keys:o.list=false->∀s∈o.ss,s.key≠⟨#[]⟩/\s.id=(0,0)
 FR:o.list=false->(o.ss.map b9.key).Nodup
 FT:o.list=false->∀key,((bC key aV.ks).elim [] q4.aC).Perm ((hg o key (0,0)).map mW)
 elems:o.list=true->∀s∈o.ss,s.key=⟨#[]⟩/\s.id≠(0,0)/\∃e,bC s.id ba=some e/\e.list=x/\e.aC.Perm (s.ad.map mW)
 DJ:o.list=true->(o.ss.map b9.id).Nodup
 chain:o.list=true->ki ba aV.first (o.ss.map b9.id)
structure e1 (R:List bg) (D:cX):Prop where
 bh:∀x o,bt R x=some o->∃aV,bC x D.1=some aV/\yq D.2 x o aV
 gW:∀x,bt R x=none->bC x D.1=none
 el:∀y e,bC y D.2=some e->∃o,bt R e.list=some o/\o.list=true/\y∈o.ss.map b9.id
theorem e1.root:e1 c4 iz:=by
 refine⟨fun x o h=> ?_,fun x h=> ?_,fun y e h=> ?_⟩
 ·have a:=Qf h;unfold bt c4 at h;simp only[arK,List.find?_nil]at h;split at h
  ·cases h;simp at a;subst a;exact⟨⟨false,none,[],(0,0)⟩,by rfl,rfl,fun _ s b=>(by simp at b),fun _=>(by simp),fun _ c=>(by rfl),fun h=>(by cases h),fun h=>(by cases h),fun h=>(by cases h)⟩
  cases h
 ·unfold bt c4 at h;simp only[arK,List.find?_nil]at h;split at h
  ·cases h
  rename_i a
  have :¬x=(0,0):=fun e=>by subst e;contradiction
  simp[iz,bC,this]
 contradiction
theorem ki.put{b:List (PId×dR)}{y:PId}{e:dR}:∀{x:PId} {L:List PId},ki b x L->y∉L->ki (cE y e b) x L
 |_,[],h,_=>h
 |_,z::L,⟨c,d,f,g,i⟩,a=>by
  simp only[aqb,not_or]at a;exact⟨c,d,f,by rw[h4,if_neg (aqa a.1)];exact g,i.put a.2⟩
theorem ki.same{a:List (PId×dR)}{y:PId}{e e':dR}(b:bC y a=some e)(c:e'.next=e.next):∀{x:PId} {L:List PId},ki a x L->ki (cE y e' a) x L
 |_,[],h=>h
 |_,z::L,⟨f,g,k,d,i⟩=>by
  by_cases j:z=y
  ·subst j;rw[b]at d;cases d;exact⟨f,g,e',by rw[h4,if_pos rfl],by rw[c];exact i.same b c⟩
  exact⟨f,g,k,by rw[h4,if_neg j];exact d,i.same b c⟩
theorem ki.ins{j:List (PId×dR)}{b i x:PId}{e:dR}(n:bC b j=some e)(o:i≠(0,0))(p:b≠i):∀{d a:List PId} {f:PId},ki j f (d++b::a)->i∉d++b::a->(d++b::a).Nodup->ki (cE b {e with next :=i} (cE i ⟨x,e.next,none,[]⟩ j)) f (d++b::i::a)
 |[],a,f,⟨k,l,q,h,m⟩,c,g=>by
  rw[n]at h;cases h;simp only[aqK,aqb,not_or]at c;simp only[aqK,aqw]at g;refine⟨k,l,{e with next :=i},by rw[h4,if_pos rfl],rfl,o,⟨x,e.next,none,[]⟩,by rw[h4,if_neg (aqa p),h4,if_pos rfl],?_⟩;exact(m.put c.2).put g.1
 |z::d,a,f,⟨k,l,q,h,m⟩,c,g=>by
  simp only[aqD,aqb,not_or]at c;simp only[aqD,aqw]at g;have r:z≠b:=by simp_all
  exact⟨k,l,q,by rw[h4,if_neg r,h4,if_neg (aqa c.1)];exact h,m.ins n o p c.2 g.2⟩
structure Fit (R:List bg) (p:bH):Prop where
 kind:p.kind=1\/p.kind=2\/p.kind=3\/p.kind=4
 make:p.kind=1->bt R p.id=none
 lay:p.kind=2->p.id≠(0,0)/\(∀x o,bt R x=some o->p.id∉o.ss.map b9.id)/\∃o,bt R p.object=some o/\o.list=true/\(p.behind=(0,0)\/p.behind∈o.ss.map b9.id)
 val:p.kind=3\/p.kind=4->∃o,bt R p.object=some o/\((o.list=false/\p.key≠⟨#[]⟩/\p.element=(0,0))\/(o.list=true/\p.key=⟨#[]⟩/\p.element∈o.ss.map b9.id))/\∀h∈hg o p.key p.element,h.cQ≠p.id
 obj:p.kind=3->∃o,bt R p.obj=some o
def Ih (p:bH):lg:=
 if p.kind=1 then .inl p.list else if p.kind=2 then .inr (.inl (p.object,p.behind)) else if p.kind=3 then .inr (.inr (.inl (p.object,p.key,p.element,(p.num,p.obj),p.old))) else .inr (.inr (.inr (p.object,p.key,p.element,p.old)))
def zI (p:bH) (n:Int):nU:=⟨p.id,n,Ih p⟩
theorem yq.Qh{a}(h:yq a c b i)(f:b.list=true->∀s∈b.ss,bC s.id j=bC s.id a)(g:b.list=true->ki j i.first (b.ss.map b9.id)):yq j c b i:=
 ⟨h.list,h.keys,h.FR,h.FT,fun d s e=>by rw[f d s e];exact h.elems d s e,h.DJ,g⟩
theorem e1.make(h:e1 a d)(g:e.kind=1)(q:bt a e.id=none):e1 (cc a e) (cE e.id ⟨e.list,none,[],(0,0)⟩ d.1,d.2):=by
 refine⟨fun x o c=> ?_,fun x c=> ?_,fun y b j=> ?_⟩
 ·rw[yp g]at c;rw[h4];cases f:bt a x with
  |some k=>
   rw[f]at c;cases c;have l:¬x=e.id:=fun b=>by simp_all
   rw[if_neg l];exact h.bh x o f
  |none=>
   rw[f]at c;simp only at c;split at c
   ·rename_i b
    cases c;rw[if_pos b];exact⟨_,rfl,rfl,fun _ s i=>(by cases i),fun _=>arh,fun _ key=>(by rfl),fun _ s i=>(by cases i),fun _=>arh,fun _=>rfl⟩
   cases c
 ·rw[yp g]at c;rw[h4];cases f:bt a x with
  |some k=>rw[f]at c;cases c
  |none=>
   rw[f]at c;simp only at c;split at c
   ·cases c
   rename_i b
   rw[if_neg b];exact h.gW x f
 obtain⟨o,m,n,p⟩:=h.el y b j;exact⟨o,by rw[yp g,m],n,p⟩
theorem e1.elem(f:e1 a d)(i:bt a h=some b)(j:b.list=true)(k:c∈b.ss.map b9.id):∃e s,bC c d.2=some e/\e.list=h/\s∈b.ss/\s.id=c/\s.key=⟨#[]⟩/\c≠(0,0)/\e.aC.Perm (s.ad.map mW):=by
 obtain⟨r,_,l⟩:=f.bh h b i;obtain⟨s,g,rfl⟩:=ap5.1 k;obtain⟨m,n,e,o,p,q⟩:=l.elems j s g;exact⟨e,s,o,p,g,rfl,m,n,q⟩
theorem e1.one(b:e1 a d){o o':bg}(f:bt a c=some o)(g:o.list=true)(i:bt a h=some o')(j:o'.list=true){y:PId}(k:y∈o.ss.map b9.id)(l:y∈o'.ss.map b9.id):c=h:=by
 obtain⟨e,_,m,n,_⟩:=b.elem f g k;obtain⟨p,_,q,r,_⟩:=b.elem i j l
 simp_all
theorem e1.af7(h:e1 a d)(b:∀x o,bt a x=some o->c∉o.ss.map b9.id):bC c d.2=none:=by
 cases f:bC c d.2 with
 |none=>rfl
 |some e=>
  obtain⟨o,g,_,i⟩:=h.el c e f;exact absurd i (b _ o g)
theorem af8{l:List b9}{i:PId}(f:l.findIdx? (fk ⟨#[]⟩ c)=some k):∃a b,l.map b9.id=a++c::b/\(nM l (k+1) (mH ⟨#[]⟩ i)).map b9.id=a++c::i::b:=by
 obtain⟨g,h,_⟩:=arA.1 f;have aa:=(pb.1 h).2;refine⟨(l.take k).map b9.id,(l.drop (k+1)).map b9.id,?_,?_⟩
 ·have e:l=l.take k++l[k]::l.drop (k+1):=by simp
  have d:=congrArg (List.map b9.id) e;rw[aqi,aqj,aa]at d;exact d
 unfold nM;rw[aqp g,aqi,aqi,aqj,aqj,aqY,aa,aqs];rfl
theorem e1.lay{R}(h:e1 R d){p:bH}(hk:p.kind=2)(P:p.id≠(0,0))(Q:∀x o,bt R x=some o->p.id∉o.ss.map b9.id){o:bg}(D:bt R p.object=some o)(f:o.list=true)(ab:p.behind=(0,0)\/p.behind∈o.ss.map b9.id):
  e1 (cc R p) (mv d p.object p.behind p.id):=by
 obtain⟨F,bT,t⟩:=h.bh _ o D;have aon:=t.list.trans f;have de:=h.af7 Q;have df:p.kind≠1:=by omega
 have E:∀y,bt (cc R p) y=if y=p.object then(bt R y).map (gq p) else bt R y:=fun y=>Bx df y
 have L6:gq p o=⟨o.id,o.list,qe o.ss p.behind p.id⟩:=by unfold gq;simp_all
 have v:bt (cc R p) p.object=some ⟨o.id,o.list,qe o.ss p.behind p.id⟩:=by simp_all
 have aa:=Q _ o D;unfold mv;rw[bT];dsimp only;rw[if_neg (by simp_all)];by_cases I:p.behind=(0,0)
 ·rw[if_pos I];have w:qe o.ss p.behind p.id=mH ⟨#[]⟩ p.id::o.ss:=by
   unfold qe;rw[I,if_pos (by rfl)];rfl
  have dY:∀y,y≠p.id->bC y (cE p.id ⟨p.object,F.first,none,[]⟩ d.2)=bC y d.2:=fun y B=>by rw[h4,if_neg B]
  refine⟨fun x u c=> ?_,fun x c=> ?_,fun y e B=> ?_⟩
  ·by_cases j:x=p.object
   ·subst j;rw[v,w]at c;cases c;refine⟨{F with first :=p.id},by rw[h4,if_pos rfl],t.list,fun g=> ?_,fun g=> ?_,fun g=> ?_,fun _ s b=> ?_,fun _=> ?_,fun _=> ?_⟩
    ·rw[f]at g;cases g
    ·rw[f]at g;cases g
    ·rw[f]at g;cases g
    ·rcases aqb.1 b with rfl|b
     ·exact⟨rfl,P,_,by show bC p.id _=_;rw[h4,if_pos rfl],rfl,by simp[mH]⟩
     obtain⟨l,n,e,m,aL⟩:=t.elems f s b;exact⟨l,n,e,by rw[dY _ (fun e=>aa (e▸ap5.2 ⟨s,b,rfl⟩))];exact m,aL⟩
    ·show(p.id::o.ss.map b9.id).Nodup;exact aqw.2 ⟨aa,t.DJ f⟩
    show ki _ p.id (p.id::o.ss.map b9.id);exact⟨rfl,P,_,by rw[h4,if_pos rfl],(t.chain f).put aa⟩
   rw[E,if_neg j]at c;obtain⟨uq,l,n⟩:=h.bh x u c;have L:=Q x u c;refine⟨uq,by rw[h4,if_neg j];exact l,n.Qh (fun _ s b=>dY _ (fun e=>L (e▸ap5.2 ⟨s,b,rfl⟩))) (fun z=>(n.chain z).put L)⟩
  ·have j:x≠p.object:=fun e=>by subst e;rw[v]at c;cases c
   rw[E,if_neg j]at c;show bC x (cE _ _ _)=none;rw[h4,if_neg j];exact h.gW x c
  have r:=B;by_cases M:y=p.id
  ·subst M;rw[h4,if_pos rfl]at r;cases r;exact⟨_,v,f,by rw[w];simp[mH]⟩
  rw[dY y M]at r;obtain⟨u,l,n,m⟩:=h.el y e r;by_cases j:e.list=p.object
  ·rw[j]at l⊢;rw[D]at l;cases l;exact⟨_,v,f,by rw[w];simp;exact .inr (by simpa using m)⟩
  exact⟨u,by rw[E,if_neg j];exact l,n,m⟩
 rw[if_neg I];have yr:=ab.resolve_left I;obtain⟨e,s0,S,ej,mr,DL,Qj,_,_⟩:=h.elem D f yr;rw[S];dsimp only;rw[if_pos ej];have AV:p.behind≠p.id:=fun q=>aa (q▸yr)
 have sF:¬cM (fk ⟨#[]⟩ p.behind) o.ss<0:=fun g=>by
  rw[Ig,arw]at g;exact g s0 mr (pb.2 ⟨Qj,DL⟩)
 have w:qe o.ss p.behind p.id=nM o.ss ((cM (fk ⟨#[]⟩ p.behind) o.ss).toNat+1) (mH ⟨#[]⟩ p.id):=by
  unfold qe;have :eF p.behind.1 p.behind.2 0 0=false:=yX.2 I;rw[this,if_neg (by simp),if_neg sF]
 have Ik:=L2 sF;generalize(cM (fk ⟨#[]⟩ p.behind) o.ss).toNat=k at w Ik;obtain⟨U,W,cv,X⟩:=af8 (i:=p.id) Ik;have gY:∀s,s∈nM o.ss (k+1) (mH ⟨#[]⟩ p.id)->s∈o.ss\/s=mH ⟨#[]⟩ p.id:=by
  intro s b;unfold nM at b;rw[ap7,aqb]at b;rcases b with b|b|b
  ·exact .inl (aqE b)
  ·exact .inr b
  exact .inl (aq8 b)
 have kB:∀y,y≠p.id->∀q,bC y d.2=some q->∃zo,bC y (cE p.behind {e with next :=p.id} (cE p.id ⟨p.object,e.next,none,[]⟩ d.2))=some zo/\zo.list=q.list/\zo.aC=q.aC:=by
  intro y B q je;rw[h4];by_cases C:y=p.behind
  ·rw[if_pos C];subst C;rw[S]at je;cases je;exact⟨_,rfl,rfl,rfl⟩
  rw[if_neg C,h4,if_neg B];exact⟨q,je,rfl,rfl⟩
 have jQ:ki (cE p.behind {e with next :=p.id} (cE p.id ⟨p.object,e.next,none,[]⟩ d.2)) F.first (U++p.behind::p.id::W):=by
  have :=t.chain f;have N:=t.DJ f;rw[cv]at this aa N;exact this.ins S P AV aa N
 refine⟨fun x u c=> ?_,fun x c=> ?_,fun y Y B=> ?_⟩
 ·by_cases j:x=p.object
  ·subst j;rw[v,w]at c;cases c;refine⟨F,bT,t.list,fun g=> ?_,fun g=> ?_,fun g=> ?_,fun _ s b=> ?_,fun _=> ?_,fun _=> ?_⟩
   ·rw[f]at g;cases g
   ·rw[f]at g;cases g
   ·rw[f]at g;cases g
   ·rcases gY s b with b|rfl
    ·obtain⟨l,n,Y,m,aL,b1⟩:=t.elems f s b;obtain⟨aw,e9,ga,ur⟩:=kB s.id (fun e=>aa (e▸ap5.2 ⟨s,b,rfl⟩)) Y m;exact⟨l,n,aw,e9,ga.trans aL,ur▸b1⟩
    exact⟨rfl,P,⟨p.object,e.next,none,[]⟩,by show bC p.id _=_;rw[h4,if_neg (aqa AV),h4,if_pos rfl],rfl,by simp[mH]⟩
   ·show((nM o.ss (k+1) (mH ⟨#[]⟩ p.id)).map b9.id).Nodup;rw[X];have N:=t.DJ f;rw[cv]at N aa;have :(U++p.behind::p.id::W).Perm (p.id::(U++p.behind::W)):=by
     have :=List.perm_middle (a:=p.id) (l₁:=U++[p.behind]) (l₂:=W);simpa using this
    rw[this.nodup_iff];exact aqw.2 ⟨aa,N⟩
   show ki _ F.first ((nM o.ss (k+1) (mH ⟨#[]⟩ p.id)).map b9.id)
   rw[X];exact jQ
  rw[E,if_neg j]at c;obtain⟨uq,l,n⟩:=h.bh x u c;have L:=Q x u c;have wz:=fun z hm=>j (h.one c z D f hm yr)
  refine⟨uq,l,n.Qh (fun z s b=> ?_) (fun z=>((n.chain z).put L).put (wz z))⟩;have hm:s.id∈u.ss.map b9.id:=ap5.2 ⟨s,b,rfl⟩;show bC s.id (cE _ _ (cE _ _ _))=_;rw[h4,if_neg (fun(e:s.id=p.behind)=>wz z (e▸hm)),h4,if_neg (fun(e:s.id=p.id)=>L (e▸hm))]
 ·have j:x≠p.object:=fun e=>by subst e;rw[v]at c;cases c
  rw[E,if_neg j]at c;exact h.gW x c
 have r:=B;by_cases M:y=p.id
 ·subst M;rw[h4,if_neg (aqa AV),h4,if_pos rfl]at r;cases r;refine⟨_,v,f,?_⟩;rw[w];show p.id∈(nM o.ss (k+1) (mH ⟨#[]⟩ p.id)).map b9.id;rw[X];simp
 have hold:∃q,bC y d.2=some q/\q.list=Y.list:=by
  rw[h4]at r;by_cases C:y=p.behind
  ·rw[if_pos C]at r;cases r;exact⟨e,C▸S,rfl⟩
  rw[if_neg C,h4,if_neg M]at r;exact⟨Y,r,rfl⟩
 obtain⟨q,h0,h0'⟩:=hold;obtain⟨u,l,n,m⟩:=h.el y q h0;rw[<-h0'];by_cases j:q.list=p.object
 ·rw[j]at l⊢;rw[D]at l;cases l;refine⟨_,v,f,?_⟩;rw[w];show y∈(nM o.ss (k+1) (mH ⟨#[]⟩ p.id)).map b9.id;rw[X];rw[cv]at m;simp only[ap7,aqb]at m⊢;rcases m with m|m|m
  ·exact .inl m
  ·exact .inr (.inl m)
  exact .inr (.inr (.inr m))
 exact⟨u,by rw[E,if_neg j];exact l,n,m⟩
theorem af9(a:List PId)(b:List cP):q8 a (b.map mW)=(unnamed a b).map mW:=by
 unfold q8 unnamed;rw[List.filter_map];congr 1;apply List.filter_congr;intro h _;by_cases c:h.cQ∈a<;>simp[mW,c]
theorem aga{a:List PId}{kind:Int}{y:cP}(s:b9):fk f c (rb l h a kind y s)=fk f c s:=by
 unfold fk;rw[L4,L5]
theorem agb{key:ByteArray}{x:PId}{old:List PId}{kind:Int}{y:cP}(l:b.ss.Pairwise fun a c=>¬(a.key=c.key/\a.id=c.id))(m:b.list=false->x=(0,0))(f:b.list=true->∃s∈b.ss,fk key x s=true)(d:ByteArray)(e:PId):
  hg ⟨b.id,b.list,lx b.ss b.list key x old kind y⟩ d e=if d=key/\e=x then jt old (hg b key x) kind y else hg b d e:=by
 by_cases g:∃s∈b.ss,fk key x s=true
 ·obtain⟨s,g,j⟩:=g;unfold hg;rw[L3 l g j];rw[List.find?_map];have :(fk d e∘rb key x old kind y)=fk d e:=by funext s;exact aga s
  rw[this];cases i:b.ss.find? (fk d e) with
  |none=>
   simp only[arC];rw[if_neg];rintro⟨rfl,rfl⟩;rw[arw]at i;exact i s g j
  |some r=>
   simp only[aqJ];have t:=pb.1 (arO i);by_cases f:d=key/\e=x
   ·obtain⟨rfl,rfl⟩:=f;rw[if_pos ⟨rfl,rfl⟩,i];unfold rb;rw[if_pos (arO i)]
   rw[if_neg f];unfold rb;rw[if_neg];intro n;have u:=pb.1 n
   simp_all
 have k:b.list=false:=by
  simp_all
 have o:=m k;subst o;have p:∀s∈b.ss,fk key (0,0) s=false:=by simp_all
 have q:hg b key (0,0)=[]:=by
  unfold hg;rw[arw.2 fun s g=>by simp_all]
 rw[q,k,Qg p];unfold hg;rw[List.find?_append];by_cases f:d=key/\e=(0,0)
 ·obtain⟨rfl,rfl⟩:=f;rw[arw.2 fun s g=>by simp_all];simp[fk,eF]
 rw[if_neg f];cases i:b.ss.find? (fk d e) with
 |some s=>rfl
 |none=>
  have :fk d e ⟨key,(0,0),jt old [] kind y⟩=false:=by
   cases h:fk d e ⟨key,(0,0),jt old [] kind y⟩
   ·rfl
   have :=pb.1 h
   simp_all
  simp[this]
theorem yq.apart{x}(h:yq j x b i):b.ss.Pairwise fun a c=>¬(a.key=c.key/\a.id=c.id):=by
 cases f:b.list
 ·have :=aqN.1 (h.FR f);exact this.imp fun d e=>d e.1
 have :=aqN.1 (h.DJ f);exact this.imp fun d e=>d e.2
theorem yq.Il(e:yq j h b i){s:b9}(n:s∈b.ss)(o:fk f c s=true):hg b f c=s.ad:=by
 unfold hg;cases g:b.ss.find? (fk f c) with
 |none=>rw[arw]at g;exact absurd o (g s n)
 |some r=>
  have k:=pb.1 (arO g);have l:=pb.1 o;have :r=s:=by
   rcases aqv.1 (arz g) with⟨a,p,rfl⟩;rcases aqv.1 n with⟨d,q,rfl⟩;rcases Nat.lt_trichotomy a d with m|m|m
   ·exact absurd ⟨k.1.trans l.1.symm,k.2.trans l.2.symm⟩ (aqT.1 e.apart a d p q m)
   ·simp_all
   exact absurd ⟨l.1.trans k.1.symm,l.2.trans k.2.symm⟩ (aqT.1 e.apart d a q p m)
  rw[this]
theorem e1.zJ(h:e1 a d)(n:bt a c=some b)(g:b.list=false)(i:f≠⟨#[]⟩)(y:PId):lE d.1 d.2 c f y=true/\(eZ d.1 d.2 c f y).aC.Perm ((hg b f (0,0)).map mW):=by
 obtain⟨o,j,k⟩:=h.bh _ b n;have l:lE d.1 d.2 c f y=true:=by
  unfold lE nr;rw[if_neg i,j];simp[k.list,g]
 refine⟨l,?_⟩;have :=k.FT g f;unfold eZ;rw[if_pos l,if_neg i,j];dsimp only;cases m:bC f o.ks with
 |none=>rw[m]at this;exact this
 |some e=>rw[m]at this;exact this
theorem e1.FU(e:e1 a d)(f:bt a h=some b)(i:b.list=true)(j:c∈b.ss.map b9.id):lE d.1 d.2 h ⟨#[]⟩ c=true/\(eZ d.1 d.2 h ⟨#[]⟩ c).aC.Perm ((hg b ⟨#[]⟩ c).map mW):=by
 obtain⟨p,s,k,q,l,m,n,_,r⟩:=e.elem f i j;obtain⟨t,u,o⟩:=e.bh _ b f;have g:lE d.1 d.2 h ⟨#[]⟩ c=true:=by
  unfold lE
  simp_all
 refine⟨g,?_⟩;unfold eZ;rw[if_pos g,if_pos rfl,k,o.Il l (pb.2 ⟨n,m⟩)];omega
theorem e1.agc(h:e1 a d)(hk:e.kind=3\/e.kind=4)(w:bt a e.object=some b)(f:b.list=false)(M:e.key≠⟨#[]⟩)(r:e.element=(0,0))(R:bC e.object d.1=some i)(S:(i.ks.map (·.1)).Nodup){v:Option Nat}{z:List (PId×dU)}{B:List (ByteArray×q4)}(U:B.Perm i.ks)(N:z.Perm ((jt e.old (hg b e.key e.element) e.kind e.held).map mW)):
  e1 (cc a e) (cE e.object {i with fG:=some k,ks:=cE e.key ⟨v,z⟩ B} d.1,d.2):=by
 obtain⟨P,Q,j⟩:=h.bh _ b w;rw[R]at Q;cases Q;have W:e.kind≠1:=by omega
 have X:e.kind≠2:=by omega
 have t:∀y,bt (cc a e) y=if y=e.object then(bt a y).map (gq e) else bt a y:=fun y=>Bx W y
 have Y:gq e b=⟨b.id,b.list,lx b.ss b.list e.key e.element e.old e.kind e.held⟩:=by
  unfold gq;rw[if_neg X,if_pos (by rw[f,HQ M])]
 have C:=t e.object;rw[if_pos rfl,w,aqJ,Y]at C;refine⟨fun x D l=> ?_,fun x l=> ?_,fun y c aA=> ?_⟩
 ·by_cases m:x=e.object
  ·subst m;rw[C]at l;cases l;refine⟨{i with fG:=some k,ks:=cE e.key ⟨v,z⟩ B},by rw[h4,if_pos rfl],j.list,fun _ s g=> ?_,fun _=> ?_,fun _ key=> ?_,fun n=>absurd n (by simp[f]),fun n=>absurd n (by simp[f]),fun n=> ?_⟩
   ·by_cases o:∃s∈b.ss,fk e.key e.element s=true
    ·obtain⟨s0,E,F⟩:=o;simp only[L3 j.apart E F]at g;obtain⟨s1,hS,rfl⟩:=ap5.1 g;rw[L4,L5];exact j.keys f s1 hS
    have u:∀s∈b.ss,fk e.key e.element s=false:=fun s I=>by
     cases h:fk e.key e.element s
     ·rfl
     exact absurd ⟨s,I,h⟩ o
    simp only[f,Qg u]at g;rcases ap7.1 g with g|g
    ·exact j.keys f s g
    simp at g;subst g;exact⟨M,rfl⟩
   ·by_cases o:∃s∈b.ss,fk e.key e.element s=true
    ·obtain⟨s0,E,F⟩:=o;simp only[L3 j.apart E F];rw[aqO];have :(b9.key∘rb e.key e.element e.old e.kind e.held)=b9.key:=by funext s;exact L5 s
     rw[this];exact j.FR f
    have u:∀s∈b.ss,fk e.key e.element s=false:=fun s I=>by
     cases h:fk e.key e.element s
     ·rfl
     exact absurd ⟨s,I,h⟩ o
    simp only[f,Qg u];rw[aqi];have de:e.key∉b.ss.map b9.key:=fun hm=>by
     obtain⟨s,g,he⟩:=ap5.1 hm;have :=u s g;rw[pb.2 ⟨he,(j.keys f s g).2.trans r.symm⟩]at this;cases this
    exact((asy (l₁:=b.ss.map b9.key) (l₂:=[e.key])).nodup_iff).2 (aqw.2 ⟨de,j.FR f⟩)
   ·rw[agb (old:=e.old) (kind:=e.kind) (y:=e.held) (key:=e.key) (x:=e.element) j.apart (fun _=>r) (fun n=>by simp_all),h4,r];by_cases L:key=e.key
    ·subst L;rw[if_pos rfl,if_pos ⟨rfl,rfl⟩];rw[r]at N;exact N
    rw[if_neg L,if_neg (fun n=>L n.1),af2 U S];exact j.FT f key
   exact absurd n (by simp[f])
  rw[t,if_neg m]at l;obtain⟨P,p,q⟩:=h.bh x D l;exact⟨P,by rw[h4,if_neg m];exact p,q⟩
 ·have m:x≠e.object:=fun c=>by subst c;rw[C]at l;cases l
  rw[t,if_neg m]at l;rw[h4,if_neg m];exact h.gW x l
 obtain⟨D,p,q,al⟩:=h.el y c aA;have m:c.list≠e.object:=fun e'=>by rw[e',w]at p;cases p;rw[f]at q;cases q
 exact⟨D,by rw[t,if_neg m];exact p,q,al⟩
theorem e1.agd(h:e1 a d)(hk:e.kind=3\/e.kind=4)(n:bt a e.object=some b)(f:b.list=true)(I:e.key=⟨#[]⟩)(B:e.element∈b.ss.map b9.id){o:dR}(r:bC e.element d.2=some o){v:Option Nat}{aC:List (PId×dU)}(L:aC.Perm ((jt e.old (hg b e.key e.element) e.kind e.held).map mW)):
  e1 (cc a e) (d.1,cE e.element {o with v:=v,aC:=aC} d.2):=by
 obtain⟨S,U,k⟩:=h.bh _ b n;have W:e.kind≠1:=by omega
 have c3:e.kind≠2:=by omega
 have t:∀y,bt (cc a e) y=if y=e.object then(bt a y).map (gq e) else bt a y:=fun y=>Bx W y
 have X:gq e b=⟨b.id,b.list,lx b.ss b.list e.key e.element e.old e.kind e.held⟩:=by
  unfold gq;simp_all
 have p:=t e.object;rw[if_pos rfl,n,aqJ,X]at p;obtain⟨s0,M,Y⟩:=ap5.1 B;rw[L3 k.apart M (pb.2 ⟨(k.elems f s0 M).1.trans I.symm,Y⟩)]at p;have C:(b.ss.map (rb e.key e.element e.old e.kind e.held)).map b9.id=b.ss.map b9.id:=by
  rw[aqO];congr 1;funext s;exact L4 s
 obtain⟨cC,_,N,WV,_⟩:=h.elem n f B;rw[r]at N;cases N;refine⟨fun x u g=> ?_,fun x g=> ?_,fun y c aA=> ?_⟩
 ·by_cases j:x=e.object
  ·subst j;rw[p]at g;cases g;refine⟨S,U,k.list,fun l=>absurd l (by simp[f]),fun l=>absurd l (by simp[f]),fun l=>absurd l (by simp[f]),fun _ s D=> ?_,fun _=> ?_,fun _=> ?_⟩
   ·obtain⟨P,Q,rfl⟩:=ap5.1 D;obtain⟨i,m,aj,w,aL,b1⟩:=k.elems f P Q;rw[L4,L5];refine⟨i,m,?_⟩;rw[h4];by_cases z:P.id=e.element
    ·rw[if_pos z];refine⟨_,rfl,WV,?_⟩;have R:=pb.2 ⟨i.trans I.symm,z⟩;unfold rb;rw[if_pos R];rw[k.Il Q R]at L;exact L
    rw[if_neg z];refine⟨aj,w,aL,?_⟩;unfold rb;rw[if_neg (fun l=>z (pb.1 l).2)];exact b1
   ·rw[C];exact k.DJ f
   rw[C];exact(k.chain f).same (e':={o with v:=v,aC:=aC}) r rfl
  rw[t,if_neg j]at g;obtain⟨uq,i,m⟩:=h.bh x u g;refine⟨uq,i,m.Qh (fun E s D=> ?_) (fun E=>(m.chain E).same (e':={o with v:=v,aC:=aC}) r rfl)⟩;have hm:s.id∈u.ss.map b9.id:=ap5.2 ⟨s,D,rfl⟩;rw[h4,if_neg (fun(c:s.id=e.element)=>j (h.one g E n f (c▸hm) B))]
 ·have j:x≠e.object:=fun c=>by subst c;rw[p]at g;cases g
  rw[t,if_neg j]at g;exact h.gW x g
 have hold:∃e',bC y d.2=some e'/\e'.list=c.list:=by
  have q:=aA;rw[h4]at q;by_cases F:y=e.element
  ·rw[if_pos F]at q;cases q;exact⟨o,F▸r,rfl⟩
  rw[if_neg F]at q;exact⟨c,q,rfl⟩
 obtain⟨e',h0,h0'⟩:=hold;obtain⟨u,i,m,w⟩:=h.el y e' h0;rw[<-h0'];by_cases j:e'.list=e.object
 ·rw[j]at i⊢;rw[n]at i;cases i;exact⟨_,p,f,by rw[C];exact w⟩
 exact⟨u,by rw[t,if_neg j];exact i,m,w⟩
theorem e1.step{w}(h:e1 a d)(N:fH d){n:Int}(r:Fit a e)(c:mS d (zI e n) w):e1 (cc a e) w:=by
 unfold mS zI Ih at c;have E:(e.kind=3\/e.kind=4)->∀{v:Option Nat} {j y:List (PId×dU)},j.Perm (q8 e.old (eZ d.1 d.2 e.object e.key e.element).aC)->y=(if e.kind=3 then cE e.id (e.num,e.obj) j else j)->Bl d e.object e.key e.element v y w->e1 (cc a e) w:=by
  intro b v j y t P s;obtain⟨o,m,z,F⟩:=r.val b;have I:∀c:List cP,(eZ d.1 d.2 e.object e.key e.element).aC.Perm (c.map mW)->(∀h∈c,h.cQ≠e.id)->y.Perm ((jt e.old c e.kind e.held).map mW):=by
   intro c p B;have k:j.Perm ((unnamed e.old c).map mW):=by
    rw[<-af9];exact t.trans (p.filter _)
   unfold jt;rw[aqi,P];by_cases q:e.kind=3
   ·rw[if_pos q,if_pos q];have Q:e.id∉j.map (·.1):=fun C=>by
     rw[(k.map (·.1)).mem_iff]at C;simp only[aqO,ap5,Function.comp]at C;obtain⟨x,R,S⟩:=C;exact B x (aqL.1 R).1 S
    rw[WU Q];exact k.append_right _
   simp_all
  rcases z with⟨i,f,l⟩|⟨i,f,l⟩
  ·rcases s with⟨D,_⟩|⟨_,aV,g,pU,L,U,rfl⟩
   ·exact absurd D f
   have p:=(h.zJ m i f e.element).2;rw[<-l]at p;exact h.agc b m i f l L (N.ks _ (fL L)) U (I _ p F)
  rcases s with⟨_,el,W,rfl⟩|⟨D,_⟩
  ·have p:=(h.FU m i l).2;rw[<-f]at p;exact h.agd b m i f l W (I _ p F)
  exact absurd f D
 have M:(e.kind=3\/e.kind=4)->lE d.1 d.2 e.object e.key e.element=true:=by
  intro b;obtain⟨o,m,z,_⟩:=r.val b;rcases z with⟨i,f,l⟩|⟨i,f,l⟩
  ·exact(h.zJ m i f e.element).1
  rw[f];exact(h.FU m i l).1
 rcases r.kind with b|b|b|b
 ·simp only[b,if_true]at c;subst c;exact h.make b (r.make b)
 ·have k:¬e.kind=1:=by omega
  simp only[k,b,if_true,if_false]at c;obtain⟨u,q,o,X,Y,e9⟩:=r.lay b;simp at c;subst c;exact h.lay b u q X Y e9
 ·have k:¬e.kind=1:=by omega
  have u:¬e.kind=2:=by omega
  simp only[k,u,b,if_true,if_false,Bn]at c;obtain⟨o',hd⟩:=r.obj b;obtain⟨uq,ys,_⟩:=h.bh _ o' hd;have B:yj d e.object e.key e.element e.obj=true:=by
   unfold yj;rw[M (.inl b),ys];rfl
  simp[B]at c;obtain⟨v,j,t,s⟩:=c;exact E (.inl b) t (by rw[if_pos b]) s
 have k:¬e.kind=1:=by omega
 have u:¬e.kind=2:=by omega
 have q:¬e.kind=3:=by omega
 simp only[k,u,q,if_false,Bm,M (.inr b),if_true]at c;obtain⟨v,j,t,s⟩:=c;exact E (.inr b) t (by rw[if_neg q]) s
theorem Im(R:List bg)(x:PId)(b:Bool):(bt R x=none/\oQ R x b=.error 3)\/∃o k,bt R x=some o/\R[k]?=some o/\oQ R x b=if o.list=b then .ok k else .error 4:=by
 unfold oQ;by_cases a:cM (jw x) R<0
 ·rw[if_pos a];exact .inl ⟨Ig.1 a,rfl⟩
 rw[if_neg a];obtain⟨c,d,e⟩:=arA.1 (L2 a);refine .inr ⟨R[(cM (jw x) R).toNat],(cM (jw x) R).toNat,?_,by simp,?_⟩
 ·unfold bt;rw[ar5];exact⟨d,_,c,rfl,fun j f=>by simpa using e j f⟩
 simp_all
theorem age(d:(a.map bg.id).Nodup)(e:b∈a):bt a b.id=some b:=by
 unfold bt;obtain⟨k,c,rfl⟩:=aqv.1 e;rw[ar5];refine⟨FP.2 rfl,k,c,rfl,fun j f=> ?_⟩;have :=aqT.1 (aqN.1 d) j k (by omega) c f;cases h:jw a[k].id a[j]
 ·rfl
 exact absurd (FP.1 h) this
theorem agf{h:cP}(a:h∈hg b f c):∃s∈b.ss,fk f c s=true/\s.ad=hg b f c:=by
 unfold hg at a⊢;cases d:b.ss.find? (fk f c) with
 |none=>rw[d]at a;cases a
 |some s=>exact⟨s,arz d,arO d,rfl⟩
theorem WY(h:c∈dB b):c∈b.ss.map b9.id:=by
 obtain⟨s,a,d⟩:=ap5.1 h;exact ap5.2 ⟨s,(aqL.1 a).1,d⟩
theorem agh(n:Int)(h:k7 n):(ze n).size<=21:=Ux n h.1 h.2
theorem agi(q:Nat):0<(Lib.decDigits q).length:=by
 rw[Lib.decDigits];split <;>simp
theorem agj(n:Int):0<(ze n).size:=by
 show 0<(Lib.itoa n).toArray.size;rw[arp];unfold Lib.itoa;split
 ·simp
 exact agi _
def lG (a:ByteArray):List ByteArray->ByteArray
 |[]=>⟨#[]⟩
 |x::l=>l.foldl (fun s y=>(s++a)++y) x
theorem agk(a:ByteArray)(l:List ByteArray)(y:ByteArray)(h:l≠[]):lG a (l++[y])=(lG a l++a)++y:=by
 cases l with
 |nil=>exact absurd rfl h
 |cons x l=>simp[lG,ara]
theorem WZ(a:ByteArray):a.toList.isEmpty=true↔a.size=0:=by
 constructor
 ·intro h;have :a=⟨#[]⟩:=key_inj (by simp_all);rw[this];rfl
 simp_all
theorem W0(b:ByteArray){l:List ByteArray}(h:l≠[])(c:∀x∈l,0<x.size):0<(lG b l).size:=by
 cases l with
 |nil=>exact absurd rfl h
 |cons x l=>
  have :∀(l:List ByteArray) (a:ByteArray),0<a.size->0<(l.foldl (fun s y=>(s++b)++y) a).size:=by
   intro l
   induction l with
   |nil=>intro a h;exact h
   |cons y l ih=>intro a h;exact ih _ (by rw[kA,kA];omega)
  exact this l x (c x aqf)
def yt (a:PId->ByteArray) (b:Bool) (s:b9):ByteArray:=if b then lU a s.ad else(s.key++colon)++lU a s.ad
def l2 (s:b9):Bool:=decide (0<s.ad.length)
theorem agl(a b c:ByteArray):(a++b)++c=a++(b++c):=by apply arS;simp
theorem agm(a:PId->ByteArray)(b:Bool){L:List ByteArray}(d:∀x∈L,0<x.size)(s:b9)(c:l2 s=true):om a b (lG comma L) s=lG comma (L++[yt a b s]):=by
 unfold l2 at c;simp at c;unfold om;rw[if_neg (by omega)];cases L with
 |nil=>
  have :(lG comma []).toList.isEmpty=true:=(WZ _).2 rfl;simp only[this,if_true];show(if b=true then(⟨#[]⟩:ByteArray) else((⟨#[]⟩:ByteArray)++s.key)++colon)++_=yt a b s;unfold yt;rw[empty_append];split
  ·rfl
  rfl
 |cons x L=>
  rw[agk _ _ _ (by simp)];have e:=W0 comma (l:=x::L) (by simp) d;have :(lG comma (x::L)).toList.isEmpty=false:=by
   cases h:(lG comma (x::L)).toList.isEmpty
   ·rfl
   rw[(WZ _).1 h]at e;omega
  simp only[this,aqM,if_false];unfold yt;split
  ·rfl
  simp only[agl]
theorem agn(a:PId->ByteArray)(b:Bool)(M:List b9)(d:∀s∈M,l2 s=true->0<(yt a b s).size):mN a b M=lG comma ((M.filter l2).map (yt a b)):=by
 have :∀(M:List b9),(∀s∈M,l2 s=true->0<(yt a b s).size)->∀(L:List ByteArray),(∀x∈L,0<x.size)->M.foldl (om a b) (lG comma L)=lG comma (L++(M.filter l2).map (yt a b)):=by
  intro M
  induction M with
  |nil=>intro _ L _;simp
  |cons s M ih=>
   intro d L f;rw[arE];cases c:l2 s
   ·have :om a b (lG comma L) s=lG comma L:=by
     unfold l2 at c;simp at c;unfold om
     simp_all
    simp_all
   rw[agm a b f s c,ih (fun s c=>d s (aqh _ c))]
   ·simp[c]
   intro x e;rcases ap7.1 e with e|e
   ·simp_all
   simp_all
 exact this M d [] (by simp)
end
section
open Go.RowKit Tryz
attribute [local go_sem ↓] Go.wp_at_zero Go.wp_at_succ
variable {a e h:World}{b f:Nat}{c d:Nat->Prop}
theorem iG.W1{c}(h:iG a (some b) c):b<a.heap.size:=by
 rcases h with⟨h,_⟩|⟨f,g,i,e,d⟩
 ·cases h
 cases e;exact d.lt
theorem fM.there{d j l}(h:fM b f c j l)(m:cz a d b f j l):fM b f (fun k=>c k/\k<a.heap.size) j l:=by
 refine⟨h.ne,fun g=>h.ro g.1,fun g=>h.FC g.1,fun p i e g=>⟨h.fG p i e g,?_⟩,fun p i k n e g=>⟨h.ij p i k n e g,?_⟩,fun p i e g=>⟨h.fX p i e g,?_⟩⟩
 ·exact rT.lt (m.hk p i) e g
 ·have :=(m.hk p i).2 k n;rw[g]at this;exact this.W1
 have :=m.aF p i;rw[g]at this;exact this.W1
theorem setRow{w:World}{g i:Nat}{a:Array Value}{t:TypeId}{u:Value}(h:w.heap[g]?=some (.cells a t (0,0))):(w.setCell (K g i) u).heap[g]?=some (.cells (a.setIfInBounds i u) t (0,0)):=by
 have b:=aN h;obtain⟨_,c⟩:=ap8.1 h;simp[World.setCell,b,aq5,c]
theorem ago{g i c d e f u:Value}{t:TypeId}(h:a.heap[b]?=some (.cells #[g,i,c,d,e,f] t (0,0))):(a.setCell (K b 1) u).heap[b]?=some (.cells #[g,u,c,d,e,f] t (0,0)):=by
 have j:=aN h;obtain⟨_,k⟩:=ap8.1 h;simp[World.setCell,j,aq5,k]
theorem c6.before(f:J a e)(b:c6 c d e h):c6 c d a h:=
 ⟨b.os.trans f.os,b.tape.trans f.tape,b.output.trans f.output,ap0 f.size b.size,fun k g hF=>(b.other k (ap3 g f.size) hF).trans (f.block k g),fun k g=>(b.sub k g).imp id fun i=>ap0 f.size i⟩
theorem c6.after(b:c6 c d a e)(f:J e h):c6 c d a h:=
 ⟨f.os.trans b.os,f.tape.trans b.tape,f.output.trans b.output,ap0 b.size f.size,fun k g hF=>(f.block k (ap3 g b.size)).trans (b.other k g hF),b.sub⟩
theorem c6.vz(h:c6 c d a e)(i:a.heap.size<=b)(u:Value):c6 c d a (e.setCell (K b f) u):=
 ⟨h.os,h.tape,h.output,by simpa[World.setCell]using h.size,fun k g hF=>(dy (by omega)).trans (h.other k g hF),h.sub⟩
theorem c6.trans{F c d w e f}(h:c6 F c w e)(k:c6 c d e f):c6 F d w f:=
 ⟨k.os.trans h.os,k.tape.trans h.tape,k.output.trans h.output,ap0 h.size k.size,fun i b hF=>(k.other i (ap3 b h.size) fun a=>(h.sub i a).elim hF fun g=>by omega).trans (h.other i b hF),
  fun i b=>(k.sub i b).elim (fun a=>h.sub i a) fun a=>.inr (ap0 h.size a)⟩
end
end Go.Proofs.YtnkpogjiiohapaaGreatDoor
