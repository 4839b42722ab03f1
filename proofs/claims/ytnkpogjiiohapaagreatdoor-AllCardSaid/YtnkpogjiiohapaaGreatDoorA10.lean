/- Our own text. -/
import Derived.Shelf.SlMaps.Clone
import Derived.Test.YtnkpogjiiohapaaGreatDoorA09
set_option linter.unusedSimpArgs false
set_option linter.unusedVariables false
set_option maxRecDepth 1000000
set_option maxHeartbeats 2000000
namespace Go.Proofs.YtnkpogjiiohapaaGreatDoor
open Go.RowKit Tryz
variable {a b:Nat}
theorem akk (b:Nat) (a:Array MapEntry) (c:Nat) (w:World) (d:w.heap[b]?=some (.map a c)):
  O 235 #[.map (some b)] w λe f=>e=ad (.map (some w.heap.size))/\f=w.alloc (.map a c):=by
 have g:=λw=>run_eql_map_nil_sl (P:=prog) w 171 _ _ (some b) underlying171
 go_enter func235,ntmps235;go_wp2;rw[af2 func245 (by rfl) (by rfl) (by kernel_rfl) (e:=Extern.MapsClone.clone) (by kernel_rfl),run_maps_clone_sl w 171 d];simp only[Result.andThen];rw[YX];go_wp2;rw[run_typeAssert_map_sl _ 171 _ _ _ _ underlying171];simp only[Result.andThen];rw[YX];go_wp2;go_ret
 simp
theorem akl (b:Nat) (a:Array MapEntry) (c:Nat) (w:World) (d:w.heap[b]?=some (.map a c)):
  O 236 #[.map (some b)] w λe f=>e=ad (.map (some w.heap.size))/\f=w.alloc (.map a c):=by
 have g:=λw=>run_eql_map_nil_sl (P:=prog) w 172 _ _ (some b) underlying172
 go_enter func236,ntmps236;go_wp2;rw[af2 func245 (by rfl) (by rfl) (by kernel_rfl) (e:=Extern.MapsClone.clone) (by kernel_rfl),run_maps_clone_sl w 172 d];simp only[Result.andThen];rw[YX];go_wp2;rw[run_typeAssert_map_sl _ 172 _ _ _ _ underlying172];simp only[Result.andThen];rw[YX];go_wp2;go_ret
 simp
theorem isMap.Qa {κ ν:Type} {d:κ->Value} {e:ν->Value} {w:World} {m:List (κ×ν)} {c:Array MapEntry} (h:isMap d e w b m c a):isMap d e (w.alloc (.map c a)) w.heap.size m c a:=⟨D5 w _,h.nK,h.nodup,h.old⟩
theorem UD {w:World} {y:Nat} {k:List (PId×fr)} {l:List (PId×eG)} (h:cW w a b y k l):
  O 213 #[Z a] w λe z=>(∃m n p,e=ad (Z m)/\cW z m n p k l/\w.heap.size<=m/\w.heap.size<=n/\w.heap.size<=p/\n≠p)/\J w z:=by
 have B:=ag h;obtain⟨q,r,C⟩:=h.al;obtain⟨s,t,D⟩:=h.he;have E:=h.bw;have F:=h.bm;have S:=h.lt;have I:=ag C;clear C;have L:=ag D;clear D;have f:=ag (show J w w.drew from(gb w));have N:=ag (akk b q r w.drew (I.o.ak f.o).bb);clear h;go_enter func213,ntmps213;go_wp2_with fail
 go_region_with (first
  |(go_at_call 235;refine N.o.mono ?_;rintro e c ⟨rfl,g⟩;have i:J w c:=(by rw[g];exact f.o.alloc f.o.size _);have U:w.heap.size<c.heap.size:=(by rw[g];simp);have P:=ag (show isMap dC rF c w.heap.size k q r from g▸(I.o.ak f.o).Qa);clear g;replace E:=ak i E;replace F:=ak i F;have u:=ag i;clear i;have Q:=ag (akl y s t c (L.o.ak u.o).bb))
  |(go_at_call 236;refine Q.o.mono ?_;rintro e d ⟨rfl,j⟩;have M:=ag (show J c d by rw[j];exact aV c _);have W:c.heap.size<d.heap.size:=(by rw[j];simp);have R:=ag (show isMap dC qZ d c.heap.size l s t from j▸(L.o.ak u.o).Qa);clear j))
 all_goals(try go_wp2)
 all_goals go_ret
 all_goals
  have v:=aV d (.cells #[.map (some w.heap.size),.map (some c.heap.size)] 174);have x:J w (d.alloc (.cells #[.map (some w.heap.size),.map (some c.heap.size)] 174)):=(bp u.o M.o).trans (v.mono (by omega));exact⟨⟨d.heap.size,w.heap.size,c.heap.size,rfl,⟨bZ d _,⟨q,r,(P.o.ak M.o).ak v⟩,⟨s,t,R.o.ak v⟩,(B.o.ak x).hk,(B.o.ak x).aO⟩,by omega,by omega,by omega,by omega⟩,x⟩
theorem akm {w:World} {sp su:Int} {d f:Value} (h:w.heap[a]?=some (.cells #[A sp,A su,d,f,Z b] 204)):
  O 85 #[Z a] w λe g=>e=ad (Z b)/\J w g:=by
 have eN:w.cell? (K a 4)=some (Z b):=by simp[World.cell?,h]
 have c:=OM w;go_enter func85,ntmps85;go_wp2
 try go_region
 all_goals(try go_wp2)
 all_goals go_ret
 all_goals first |exact⟨rfl,c⟩|exact⟨rfl,c.drew⟩
def yi (a b:Int):Int:=if a<b then -1 else if b<a then 1 else 0
def L5 (a b:Int):Int:=if a≠0 then a else b
def pE (a b:PId):Int:=L5 (yi a.1 b.1) (yi a.2 b.2)
theorem UE (a b:Int) (w:World):O 166 #[A a,A b] w λe c=>e=ad (A (yi a b))/\c=w:=by
 unfold yi;by_cases d:a<b
 .go_enter func166,ntmps166;go_wp2;go_ret
  simp
 by_cases f:b<a
 .go_enter func166,ntmps166;go_wp2;go_ret
  simp
 go_enter func166,ntmps166;go_wp2;go_ret
 simp
theorem UF {w:World} {g:Nat} {a b:Int} (j:w.cell? (H g)=some (A a)) (k:w.cell? (K g 1)=some (A b)):
  O 165 #[aa g 2 2] w λe f=>e=ad (A (L5 a b))/\f=w:=by
 unfold L5;go_enter func165,ntmps165;go_wp2;go_loopw [8] (λi wr=>wr=w/\(i=A 0\/(i=A 1/\a=0)\/(i=A 2/\a=0/\b=0))) (λi _=>2-(intOf i).toNat)
 case atStart=>simp
 case round=>
  obtain⟨rfl,rfl|⟨rfl,c⟩|⟨rfl,c,h⟩⟩:=hrel
  .by_cases d:a=0
   .subst d;go_wp2;go_roundw
    case rel=>simp
    case measure=>simp[intOf]
   go_wp2;go_ret
   simp
  .subst c;by_cases d:b=0
   .subst d;go_wp2;go_roundw
    case rel=>simp
    case measure=>simp[intOf]
   go_wp2;go_ret
   simp
  subst c;subst h;go_wp2;go_ret
  simp
