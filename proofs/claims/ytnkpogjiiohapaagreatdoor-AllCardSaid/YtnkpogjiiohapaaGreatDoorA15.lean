/- Our own text. -/
import Derived.Test.YtnkpogjiiohapaaGreatDoorA11
set_option linter.unusedSimpArgs false
set_option linter.unusedVariables false
set_option maxRecDepth 1000000
set_option maxHeartbeats 2000000
namespace Go.Proofs.YtnkpogjiiohapaaGreatDoor
section
open Go.RowKit Go.Sort Tryz
attribute [local go_sem ↓] Go.wp_at_zero Go.wp_at_succ
theorem abF(w:World)(a b c:Obj):(((w.alloc a).alloc b).alloc c).drew=grow (w.drewN 1) #[a,b,c]:=by rfl
theorem alo (c d f i:Int) (w:World):
  O 139 #[.agg #[A c,A d],.agg #[A f,A i]] w λe j=>e=ad (A (pE (c,d) (f,i)))/\∃q k,j=grow (w.drewN q) k:=by
 go_enter func139,ntmps139;go_wp2_with fail
 go_region_held3 (λW=>W.cell? (V w 0)=some (A c)/\W.cell? (V w 1)=some (A d)/\W.cell? (H (w.heap.size+1))=some (A f)/\W.cell? (K (w.heap.size+1) 1)=some (A i)) (go_keep)
  (first
   |(go_at_call 166;refine(UE _ _ _).mono ?_;rintro e j ⟨rfl,rfl⟩)
   |(go_at_call 165;refine(UF (g:=w.heap.size+2) (a:=yi c f) (b:=yi d i) ?_ ?_).mono ?_;(exact(Jr _ _ _ _ _ _).1);(exact(Jr _ _ _ _ _ _).2);rintro e j ⟨rfl,rfl⟩))
 all_goals(go_wp2;go_ret)
 all_goals exact⟨rfl,1,_,abF _ _ _ _⟩
def gj (x y:PId):Bool:=decide (pE x y<0)
theorem rU(x y:PId):gj x y=true↔x.1<y.1\/(x.1=y.1/\x.2<y.2):=by unfold gj pE L5 yi;simp only[Eb];omega
end
