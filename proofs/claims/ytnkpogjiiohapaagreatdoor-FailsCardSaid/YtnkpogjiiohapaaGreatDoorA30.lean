/- Our own text. -/
import Derived.Deep.RegionHeld3
import Derived.Test.YtnkpogjiiohapaaGreatDoorA27
import Derived.Test.YtnkpogjiiohapaaGreatDoorA23
import Derived.Test.YtnkpogjiiohapaaGreatDoorA21
import Derived.Test.YtnkpogjiiohapaaGreatDoorA20
import Derived.Test.YtnkpogjiiohapaaGreatDoorA26
import Derived.Test.YtnkpogjiiohapaaGreatDoorA16
import Derived.Test.YtnkpogjiiohapaaGreatDoorA10
set_option linter.unusedSimpArgs false
set_option linter.unusedVariables false
set_option maxRecDepth 1000000
set_option maxHeartbeats 1000000
namespace Go.Proofs.YtnkpogjiiohapaaGreatDoor
section
open Go.RowKit Tryz
attribute [local go_sem ↓] Go.wp_at_zero Go.wp_at_succ
variable {a c i:Nat}{b:World}{d h:Nat->Prop}{e:bn}{f:cI}
theorem Jh{o:Obj}(h:a=b.heap.size):(b.alloc o).heap[a]?=some o:=by rw[h];exact bI b o
structure jV (w:World) (r N:Nat):Prop where
 blk:∃db eY jK,w.heap[r]?=some (.cells #[.slice (some (H db)) N eY,.map (some jK)] 119 (0,0))/\N<=eY/\eY<=maxLen
 hN:N<=4
theorem jV.ae{w r}{w':World}(h:jV w r a)(b:J w w'):jV w' r a:=by
 obtain⟨c,d,e,f,g⟩:=h.blk;exact⟨⟨c,d,e,bj f b,g⟩,h.hN⟩
theorem ec.jV{w r F I N b s x}(h:ec w r F I N b s x):Go.Proofs.YtnkpogjiiohapaaGreatDoor.jV w r N:=by
 have g:=h.cap;obtain⟨a,i,e,c,d,_⟩:=bm h.row;injection e with _ _ f;subst f;exact⟨⟨_,_,_,h.blk,c,d⟩,h.hN⟩
theorem Sa(h:jV b c a)(d:Int)(f:¬(0<=d/\d<a)):
  O 44 #[Z c,A d] b fun e i=>e=.returned (.tuple #[.pointer none,A 2])/\i=b:=by
 obtain⟨k,l,m,g,n,j⟩:=h.blk;have o:=(bl g).1;have p:=h.hN;unfold maxLen at j;clear h g;by_cases q:d<0
 ·clear f;go_enter func44,ntmps44;go_wp2;go_ret2
  exact⟨rfl,rfl⟩
 have r:(a:Int)<=d:=by omega
 clear f;go_enter func44,ntmps44;go_wp2;go_ret2
 exact⟨rfl,rfl⟩
theorem MZ(h:jV b a c)(d:Int)(f:¬(0<=d/\d<c))(g i:Int)(k:Bool):
  O 56 #[Z a,A d,.agg #[A g,A i],.bool k] b fun e l=>J b l/\e=.returned (.tuple #[.pointer none,A 2]):=by
 have j:=aa ((apY b.heap.size b).alloc (apX _) (.cells #[A g,A i] 36));have m:=aa (Sa (h.ae j.o) d f);clear h f;go_enter func56,ntmps56;go_wp2_with fail
 refine m.o.mono ?_;rintro e p ⟨rfl,n⟩;subst n;go_wp2;go_ret2
 exact⟨j.o,rfl⟩
theorem M0(h:jV b a c)(d:Int)(l:¬(0<=d/\d<c))(f g:Int)(m:ByteArray):
  O 46 #[Z a,A d,.agg #[A f,A g],.string m] b fun e n=>J b n/\e=.returned (.tuple #[.pointer none,.agg #[A 0,A 0,.string ⟨#[]⟩,A 0,A 0],A 2]):=by
 have i:=aa (((apY b.heap.size b).alloc (apX _) (.cells #[A f,A g] 36)).alloc (by simp) (.cells #[A 0,A 0,.string ⟨#[]⟩,A 0,A 0] 97));have p:=aa (show((b.alloc (.cells #[A f,A g] 36)).alloc (.cells #[A 0,A 0,.string ⟨#[]⟩,A 0,A 0] 97)).heap[b.heap.size+1]?=some (.cells #[A 0,A 0,.string ⟨#[]⟩,A 0,A 0] 97 (0,0)) from Jh (by simp));have q:=aa (MZ (h.ae i.o) d l f g false);clear h l;go_enter func46,ntmps46;go_wp2_with fail
 refine q.o.mono ?_;rintro e y ⟨j,rfl⟩;have k:=aa (bj p.o j);have r:=aa (i.o.trans (j.mono i.o.size));clear j;obtain⟨s,t,u,w,x⟩:=gb k.o;have z:=cG k.o;have B:=aN k.o;go_wp2;refine bodyPost_ret (v:=.tuple #[.pointer none,.agg #[A 0,A 0,.string ⟨#[]⟩,A 0,A 0],A 2]) (by simp[results,results46,go_sem,s,t,u,w,x]) rfl ?_;exact⟨xh r.o (by omega) _ _ _ _ _,rfl⟩
theorem ZQ(h:jV b a c)(d:Int)(m:¬(0<=d/\d<c))(f g i:Int):
  O 64 #[Z a,A d,.agg #[A f,A g],A i] b fun e n=>J b n/\e=.returned (.tuple #[.pointer none,.agg #[A 0,A 0,.string ⟨#[]⟩,A 0,A 0],A 2]):=by
 have j:=aa (((apY b.heap.size b).alloc (apX _) (.cells #[A f,A g] 36)).alloc (by simp) (.cells #[A 0,A 0,.string ⟨#[]⟩,A 0,A 0] 97));have p:=aa (show((b.alloc (.cells #[A f,A g] 36)).alloc (.cells #[A 0,A 0,.string ⟨#[]⟩,A 0,A 0] 97)).heap[b.heap.size+1]?=some (.cells #[A 0,A 0,.string ⟨#[]⟩,A 0,A 0] 97 (0,0)) from Jh (by simp));have q:=aa (MZ (h.ae j.o) d m f g true);clear h m;go_enter func64,ntmps64;go_wp2_with fail
 refine q.o.mono ?_;rintro e y ⟨k,rfl⟩;have l:=aa (bj p.o k);have r:=aa (j.o.trans (k.mono j.o.size));clear k;obtain⟨s,t,u,w,x⟩:=gb l.o;have z:=cG l.o;have B:=aN l.o;go_wp2;refine bodyPost_ret (v:=.tuple #[.pointer none,.agg #[A 0,A 0,.string ⟨#[]⟩,A 0,A 0],A 2]) (by simp[results,results64,go_sem,s,t,u,w,x]) rfl ?_;exact⟨xh r.o (by omega) _ _ _ _ _,rfl⟩
theorem ZR(h:jV b a c)(d:Int)(k:¬(0<=d/\d<c))(f g i:Int):
  O 59 #[Z a,A d,.agg #[A f,A g],A i] b fun e m=>J b m/\e=.returned (.tuple #[.pointer none,A 2]):=by
 have j:=aa ((apY b.heap.size b).alloc (apX _) (.cells #[A f,A g] 36));have n:=aa (MZ (h.ae j.o) d k f g true);clear h k;go_enter func59,ntmps59;go_wp2_with fail
 refine n.o.mono ?_;rintro e q ⟨l,rfl⟩;have p:=aa (j.o.trans (l.mono j.o.size));clear l;go_wp2;go_ret2
 exact⟨p.o,rfl⟩
theorem aji(h:jV b a c)(d:Int)(j:¬(0<=d/\d<c))(f g n:Int)(k:ByteArray):
  O 23 #[Z a,A d,.agg #[A f,A g],.string k,A n] b fun e p=>e=.returned (A 2)/\J b p:=by
 have i:=aa ((apY b.heap.size b).alloc (apX _) (.cells #[A f,A g] 36));have q:=aa (M0 (h.ae i.o) d j f g k);clear h j;go_enter func23,ntmps23;go_wp2_with fail
 refine q.o.mono ?_;rintro e s ⟨l,rfl⟩;have m:=aa (i.o.trans (l.mono i.o.size));clear l;have r:=m.o.size;go_wp2;go_ret
 exact⟨rfl,(m.o.alloc r _)⟩
theorem ajj(h:jV b a c)(d:Int)(j:¬(0<=d/\d<c))(f g:Int)(k:ByteArray):
  O 78 #[Z a,A d,.agg #[A f,A g],.string k] b fun e n=>e=.returned (A 2)/\J b n:=by
 have i:=aa ((apY b.heap.size b).alloc (apX _) (.cells #[A f,A g] 36));have p:=aa (M0 (h.ae i.o) d j f g k);clear h j;go_enter func78,ntmps78;go_wp2_with fail
 refine p.o.mono ?_;rintro e r ⟨l,rfl⟩;have m:=aa (i.o.trans (l.mono i.o.size));clear l;have q:=m.o.size;go_wp2;go_ret
 exact⟨rfl,(m.o.alloc q _)⟩
theorem ajk(h:jV b a c)(d:Int)(k:¬(0<=d/\d<c))(f g i n:Int):
  O 33 #[Z a,A d,.agg #[A f,A g],A i,A n] b fun e p=>e=.returned (A 2)/\J b p:=by
 have j:=aa ((apY b.heap.size b).alloc (apX _) (.cells #[A f,A g] 36));have q:=aa (ZQ (h.ae j.o) d k f g i);clear h k;go_enter func33,ntmps33;go_wp2_with fail
 refine q.o.mono ?_;rintro e s ⟨l,rfl⟩;have m:=aa (j.o.trans (l.mono j.o.size));clear l;have r:=m.o.size;go_wp2;go_ret
 exact⟨rfl,(m.o.alloc r _)⟩
theorem ajl(h:jV b a c)(d:Int)(k:¬(0<=d/\d<c))(f g i:Int):
  O 34 #[Z a,A d,.agg #[A f,A g],A i] b fun e n=>e=.returned (A 2)/\J b n:=by
 have j:=aa ((apY b.heap.size b).alloc (apX _) (.cells #[A f,A g] 36));have p:=aa (ZQ (h.ae j.o) d k f g i);clear h k;go_enter func34,ntmps34;go_wp2_with fail
 refine p.o.mono ?_;rintro e r ⟨l,rfl⟩;have m:=aa (j.o.trans (l.mono j.o.size));clear l;have q:=m.o.size;go_wp2;go_ret
 exact⟨rfl,(m.o.alloc q _)⟩
theorem ajm(h:jV b a c)(d:Int)(l:¬(0<=d/\d<c))(f g:Int)(m:ByteArray)(p:Bool):
  O 38 #[Z a,A d,.agg #[A f,A g],.string m,.bool p] b fun e q=>e=.returned (.tuple #[.agg #[A 0,A 0],A 2])/\J b q:=by
 have j:=aa (((apY b.heap.size b).alloc (apX _) (.cells #[A f,A g] 36)).alloc (by simp) (.cells #[A 0,A 0] 36));have r:=aa (show((b.alloc (.cells #[A f,A g] 36)).alloc (.cells #[A 0,A 0] 36)).heap[b.heap.size+1]?=some (.cells #[A 0,A 0] 36 (0,0)) from Jh (by simp));have s:=aa (M0 (h.ae j.o) d l f g m);clear h l;go_enter func38,ntmps38;go_wp2_with fail
 refine s.o.mono ?_;rintro e t ⟨k,rfl⟩;have i:=aa (bj r.o k);have n:=aa (j.o.trans (k.mono j.o.size));clear k;have y:=n.o.size;obtain⟨u,z⟩:=bl i.o;have B:=cG i.o;have C:=aN i.o;have D:=World.new_ne t (H (b.heap.size+1)) u;obtain⟨w,x⟩:=Zg i.o (A 0) (A 0) (.cells #[A 0,A 0,.string ⟨#[]⟩,A 0,A 0] 97);go_wp2;refine bodyPost_ret (v:=.tuple #[.agg #[A 0,A 0],A 2]) (by simp[results,results38,go_sem,w,x]) rfl ?_;exact⟨rfl,(((n.o.setCell (show b.heap.size<=b.heap.size+1 by omega) _).setCell (show b.heap.size<=b.heap.size+1 by omega) _).alloc (by simp[World.setCell];omega) _)⟩
theorem ajn(h:jV b a c)(d:Int)(m:¬(0<=d/\d<c))(f g i n:Int):
  O 32 #[Z a,A d,.agg #[A f,A g],A i,A n] b fun e r=>e=.returned (.tuple #[.agg #[A 0,A 0],A 2])/\J b r:=by
 have j:=aa (((apY b.heap.size b).alloc (apX _) (.cells #[A f,A g] 36)).alloc (by simp) (.cells #[A 0,A 0] 36));have s:=aa (show((b.alloc (.cells #[A f,A g] 36)).alloc (.cells #[A 0,A 0] 36)).heap[b.heap.size+1]?=some (.cells #[A 0,A 0] 36 (0,0)) from Jh (by simp));have t:=aa (ZR (h.ae j.o) d m f g i);clear h m;go_enter func32,ntmps32;go_wp2_with fail
 refine t.o.mono ?_;rintro e u ⟨k,rfl⟩;have l:=aa (bj s.o k);have p:=aa (j.o.trans (k.mono j.o.size));clear k;have x:=p.o.size;obtain⟨q,w⟩:=bl l.o;have y:=cG l.o;have z:=aN l.o;have B:=World.new_ne u (H (b.heap.size+1)) q;go_wp2;refine bodyPost_ret (v:=.tuple #[.agg #[A 0,A 0],A 2]) (by simp[results,results32,go_sem,q,w]) rfl ?_;exact⟨rfl,((p.o.setCell (show b.heap.size<=b.heap.size+1 by omega) _).setCell (show b.heap.size<=b.heap.size+1 by omega) _)⟩
theorem ajo(h:jV b a c)(d:Int)(m:¬(0<=d/\d<c))(f g i:Int)(q:Bool):
  O 99 #[Z a,A d,.agg #[A f,A g],A i,.bool q] b fun e r=>e=.returned (.tuple #[.agg #[A 0,A 0],A 2])/\J b r:=by
 have j:=aa (((apY b.heap.size b).alloc (apX _) (.cells #[A f,A g] 36)).alloc (by simp) (.cells #[A 0,A 0] 36));have s:=aa (show((b.alloc (.cells #[A f,A g] 36)).alloc (.cells #[A 0,A 0] 36)).heap[b.heap.size+1]?=some (.cells #[A 0,A 0] 36 (0,0)) from Jh (by simp));have t:=aa (ZR (h.ae j.o) d m f g i);clear h m;go_enter func99,ntmps99;go_wp2_with fail
 refine t.o.mono ?_;rintro e u ⟨k,rfl⟩;have l:=aa (bj s.o k);have n:=aa (j.o.trans (k.mono j.o.size));clear k;have x:=n.o.size;obtain⟨p,w⟩:=bl l.o;have y:=cG l.o;have z:=aN l.o;have B:=World.new_ne u (H (b.heap.size+1)) p;go_wp2;refine bodyPost_ret (v:=.tuple #[.agg #[A 0,A 0],A 2]) (by simp[results,results99,go_sem,p,w]) rfl ?_;exact⟨rfl,((n.o.setCell (show b.heap.size<=b.heap.size+1 by omega) _).setCell (show b.heap.size<=b.heap.size+1 by omega) _)⟩
theorem ajp(h:jV b a c)(d:Int)(j:¬(0<=d/\d<c))(f g:Int):
  O 29 #[Z a,A d,.agg #[A f,A g]] b fun e l=>e=.returned (.tuple #[.slice none 0 0,A 2])/\J b l:=by
 have i:=aa ((apY b.heap.size b).alloc (apX _) (.cells #[A f,A g] 36));have m:=aa (MZ (h.ae i.o) d j f g true);clear h j;go_enter func29,ntmps29;go_wp2_with fail
 refine m.o.mono ?_;rintro e p ⟨k,rfl⟩;have n:=aa (i.o.trans (k.mono i.o.size));clear k;go_wp2;go_ret2
 exact⟨rfl,n.o⟩
theorem ajq(h:jV b a c)(d:Int)(j:¬(0<=d/\d<c))(f g:Int)(k:ByteArray):
  O 24 #[Z a,A d,.agg #[A f,A g],.string k] b fun e n=>e=.returned (.tuple #[.slice none 0 0,A 2])/\J b n:=by
 have i:=aa ((apY b.heap.size b).alloc (apX _) (.cells #[A f,A g] 36));have p:=aa (M0 (h.ae i.o) d j f g k);clear h j;go_enter func24,ntmps24;go_wp2_with fail
 refine p.o.mono ?_;rintro e r ⟨l,rfl⟩;have m:=aa (i.o.trans (l.mono i.o.size));clear l;have q:=m.o.size;go_wp2;go_ret2
 exact⟨rfl,(m.o.alloc q _)⟩
theorem ajr(h:jV b a c)(d:Int)(f:¬(0<=d/\d<c)):
  O 28 #[Z a,A d] b fun e g=>e=.returned (.tuple #[.string ⟨#[]⟩,A 2])/\J b g:=by
 have i:=aa (Sa h d f);clear h f;go_enter func28,ntmps28;go_wp2_with fail
 refine i.o.mono ?_;rintro e k ⟨rfl,j⟩;subst j;go_wp2;go_ret2
 exact⟨rfl,(apY _ _)⟩
theorem ajs(h:jV b a c)(d:Int)(f:¬(0<=d/\d<c)):
  O 25 #[Z a,A d] b fun e g=>e=.returned (.tuple #[.slice none 0 0,A 2])/\J b g:=by
 have i:=aa (Sa h d f);clear h f;go_enter func25,ntmps25;go_wp2_with fail
 refine i.o.mono ?_;rintro e k ⟨rfl,j⟩;subst j;go_wp2;go_ret2
 exact⟨rfl,apY _ _⟩
def lo (N:Nat) (a b:Int):Prop:=∃c d:Nat,c<N/\d<N/\c≠d/\a=c/\b=d
theorem Ji(k:ec b a d h c i e f)(g j:Int)(n:¬lo c g j):O 51 #[Z a,A g,A j] b fun l p=>l=.returned (.tuple #[.pointer none,A 9])/\p=b:=by
 have q:=(bl k.blk).2;obtain⟨r,s,o⟩:=k.lmap;have m:=yZ QC o underlying117 (show(zeroValue 110).run prog b=.ok (.pointer none) b by kernel_rfl) (g,j) true;rw[k.z8 g j n]at m;have t:(Instr.lookup 117 (.map (some f.jK)) (.agg #[A g,A j]) true).run prog b=.ok (.tuple #[.pointer none,.bool false]) b:=m;clear k n m o;go_enter func51,ntmps51;go_wp2;go_ret2
 exact⟨rfl,rfl⟩
theorem M1(k:ec b a d h c i e f)(g j:Int)(m:¬lo c g j):O 74 #[Z a,A g,A j] b fun l n=>l=.returned (.tuple #[.pointer none,A 9])/\n=b:=by
 have p:=aa (Ji k g j m);clear k m;go_enter func74,ntmps74;go_wp2_with fail
 refine p.o.mono ?_;rintro l q ⟨rfl,rfl⟩;go_wp2;go_ret2
 exact⟨rfl,rfl⟩
theorem ajt(k:ec b a d h c i e f)(g j:Int)(m:¬lo c g j):O 27 #[Z a,A g,A j] b fun l n=>l=.returned (A 9)/\n=b:=by
 have p:=aa (Ji k g j m);clear k m;go_enter func27,ntmps27;go_wp2_with fail
 refine p.o.mono ?_;rintro l q ⟨rfl,rfl⟩;go_wp2;go_ret
 exact⟨rfl,rfl⟩
theorem aju(k:ec b a d h c i e f)(g j:Int)(m:¬lo c g j):O 39 #[Z a,A g,A j] b fun l n=>l=.returned (A 9)/\n=b:=by
 have p:=aa (M1 k g j m);clear k m;go_enter func39,ntmps39;go_wp2_with fail
 refine p.o.mono ?_;rintro l q ⟨rfl,rfl⟩;go_wp2;go_ret
 exact⟨rfl,rfl⟩
theorem ajv(k:ec b a d h c i e f)(g j:Int)(m:¬lo c g j):O 115 #[Z a,A g,A j] b fun l n=>l=.returned (.tuple #[A 0,A 9])/\n=b:=by
 have p:=aa (Ji k g j m);clear k m;go_enter func115,ntmps115;go_wp2_with fail
 refine p.o.mono ?_;rintro l q ⟨rfl,rfl⟩;go_wp2;go_ret2
 exact⟨rfl,rfl⟩
theorem ajw(k:ec b a d h c i e f)(g j:Int)(m:¬lo c g j):O 41 #[Z a,A g,A j] b fun l n=>l=.returned (A 9)/\n=b:=by
 have p:=aa (M1 k g j m);clear k m;go_enter func41,ntmps41;go_wp2_with fail
 refine p.o.mono ?_;rintro l q ⟨rfl,rfl⟩;go_wp2;go_ret
 exact⟨rfl,rfl⟩
theorem ajx(k:ec b a d h c i e f)(g j:Int)(m:¬lo c g j):O 42 #[Z a,A g,A j] b fun l n=>l=.returned (A 9)/\n=b:=by
 have p:=aa (M1 k g j m);clear k m;go_enter func42,ntmps42;go_wp2_with fail
 refine p.o.mono ?_;rintro l q ⟨rfl,rfl⟩;go_wp2;go_ret
 exact⟨rfl,rfl⟩
theorem ajy(k:ec b a d h c i e f)(g j:Int)(m:¬lo c g j):O 43 #[Z a,A g,A j] b fun l n=>l=.returned (A 9)/\n=b:=by
 have p:=aa (M1 k g j m);clear k m;go_enter func43,ntmps43;go_wp2_with fail
 refine p.o.mono ?_;rintro l q ⟨rfl,rfl⟩;go_wp2;go_ret
 exact⟨rfl,rfl⟩
theorem ajz(k:ec b a d h c i e f)(g j:Int)(m:¬lo c g j):O 120 #[Z a,A g,A j] b fun l n=>l=.returned (A 9)/\n=b:=by
 have p:=aa (Ji k g j m);clear k m;go_enter func120,ntmps120;go_wp2_with fail
 refine p.o.mono ?_;rintro l q ⟨rfl,rfl⟩;go_wp2;go_ret
 exact⟨rfl,rfl⟩
theorem ajA(k:ec b a d h c i e f)(g j:Int)(m:¬lo c g j):O 122 #[Z a,A g,A j] b fun l n=>l=.returned (.tuple #[A 0,A 9])/\n=b:=by
 have p:=aa (Ji k g j m);clear k m;go_enter func122,ntmps122;go_wp2_with fail
 refine p.o.mono ?_;rintro l q ⟨rfl,rfl⟩;go_wp2;go_ret2
 exact⟨rfl,rfl⟩
theorem ajB{r p}(g:ec b r d h i p e f)(k:a<i)(l:c<i)(m:a≠c):O 115 #[Z r,A a,A c] b fun j q=>j=.returned (.tuple #[A (e.ms a c).length,A 0])/\q=b:=by
 have s:=aa (IV g k l m);have n:=aa (Rq (g.link a c k l m));rw[<-(g.tu a c k l m).len]at n;clear g;go_enter func115,ntmps115;go_wp2_with fail
 refine s.o.mono ?_;rintro j t ⟨rfl,rfl⟩;go_wp2_with fail
 refine n.o.mono ?_;rintro j u ⟨rfl,rfl⟩;go_wp2;go_ret2
 exact⟨rfl,rfl⟩
end
end Go.Proofs.YtnkpogjiiohapaaGreatDoor
