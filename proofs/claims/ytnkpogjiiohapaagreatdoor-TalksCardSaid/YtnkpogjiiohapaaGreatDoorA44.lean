/- The law Talks: for every script that the form reads the call answers true, and the script reads afterwards as it read before: the row and the card. Its conditions: the three tables that the translation lists lie as the program's text lays them; the card ties them to that text. -/
import Derived.Test.YtnkpogjiiohapaaGreatDoorA42
import Derived.Test.YtnkpogjiiohapaaGreatDoorA43
set_option linter.unusedSimpArgs false
set_option linter.unusedVariables false
set_option maxRecDepth 100000
namespace Go.Proofs.YtnkpogjiiohapaaGreatDoor
open Go.ChangeShapes Go.WideShapes Go.ChangeAt Go.RowKit
def amH:List Int:=[0,1,28,2,29,14,24,3,30,22,20,15,25,17,4,8,31,27,13,23,21,19,16,7,26,12,18,6,11,5,10,9]
def amI:List Int:=[0,1,56,2,57,49,28,3,61,58,42,50,38,29,17,4,62,47,59,36,45,43,51,22,53,39,33,30,24,18,12,5,63,55,48,27,60,41,37,16,46,35,44,21,52,32,23,11,54,26,40,15,34,20,31,10,25,14,19,9,13,8,7,6]
def SQ (k:IntKind) (a:List Int):Obj->Obj
 |.cells _ t frozen=>.cells (a.map fun z=>Value.int k z).toArray t frozen
 |o=>o
def SR (w:World):World:={w with heap:=((w.heap.modify 1 (SQ .u64 Lib.pow10Tab)).modify 2 (SQ .u8 amH)).modify 3 (SQ .u8 amI)}
theorem amJ(a:Os):laidMet Tryz.prog Rows.talksRow.laid ((SR (World.holding Tryz.prog a ⟨#[],#[],[]⟩)).forCall (fun _ _=>0) ⟨#[],#[.slice none 0 0],[]⟩).memory:=
 laidMet_of_run' 8 (by kernel_rfl) (by kernel_rfl)
theorem reads (b:Os) {a:Type} (enc:TypeId×Value->a):∃places,DataW.whole enc Tryz.prog ((SR (World.holding Tryz.prog b ⟨#[],#[],[]⟩)).forCall (fun _ _=>0) ⟨#[],#[.slice none 0 0],[]⟩).memory Tryz.f4.params.toList Rows.talksSpec.vars false #[Value.slice none 0 0].toList 8=some ([.nil],[],places):=
 ⟨[],by kernel_rfl⟩
theorem lifted (b:Os) (d:b.Started) (a:Type) (enc:TypeId×Value->a) (F:Stop.Interp):
  ReturnsInHanded {} Tryz.checked b 4 .any ((OpenSpec.ofChange Rows.talksSpec).preRow enc Tryz.prog Tryz.f4 Rows.talksRow.domain false Rows.talksRow.laid) (((OpenSpec.ofChange Rows.talksSpec).at F).post enc Tryz.prog Tryz.f4 false true false false):=by
 obtain⟨places,e⟩:=reads b enc;refine returnsInHanded_of_row (C:=Tryz.checked) (s:=OpenSpec.ofChange Rows.talksSpec) ama d (by kernel_rfl) Tryz.func4
  (witness_row_at (enc:=enc) (C:=Tryz.checked) false (SR (World.holding Tryz.prog b ⟨#[],#[],[]⟩)) #[.slice none 0 0] rfl (by kernel_rfl) (by kernel_rfl) (by kernel_rfl)
   (OpenSpec.preRow_of_cond 8 e (by kernel_rfl) (fun k c=>by cases c) (by kernel_rfl) (amJ b))) ?_
 intro W base args f g before h i _ _ c j _ _;exact contract a enc W base args f g before h i c j
theorem amK:Rows.TalksSaid:=
 OpenClaim.holds_of_cond 4 Tryz.f4 rfl rfl rfl rfl rfl rfl rfl ⟨rfl,rfl,rfl,rfl,rfl⟩ rfl rfl rfl rfl rfl (by kernel_rfl) Tryz.func4 amG
  (of_decide_eq_true (by kernel_rfl)) (by unfold Func.isWrapper;first |(rw[if_pos (by decide+kernel)];kernel_rfl)|(rw[if_neg (by decide+kernel)];exact⟨rfl,rfl⟩))
  (fun b started a c _ F=>by rw[OpenClaim.pre_eq_preRow];exact lifted b started a c F)
theorem amL(f:FuncId)(a:Func)(c:Tryz.pinned.checked.prog.funcNamed Rows.talksRow.func=some f)(d:Tryz.pinned.checked.prog.funcs[f]?=some a):
  true=Tryz.pinned.checked.prog.looks []/\∀(j:Nat) t,a.params[j]?=some t->Tryz.pinned.checked.prog.wantsStandIn t=false:=by
 obtain rfl:f=4:=apE ((show Tryz.prog.funcNamed Rows.talksRow.func=some 4 by kernel_rfl).symm.trans c)|>.symm
 obtain rfl:a=Tryz.f4:=(apE (Tryz.func4.symm.trans d)).symm;refine⟨by kernel_rfl,fun j t b=> ?_⟩;rw[Tryz.params4]at b;obtain rfl:t=22:=by simpa using Array.mem_of_getElem? b
 exact(show Tryz.prog.wantsStandIn 22=false by kernel_rfl)
theorem talks_card:Rows.TalksCardSaid:=
 Claim7.holds_tied_plain_at .later [] _ _ _ _ amK (fun _ h=>by cases h) (by kernel_rfl) (fun _ h=>by cases h) talks_row_tie rfl ⟨rfl,rfl⟩ (by kernel_rfl) rfl amL (by kernel_rfl)
end Go.Proofs.YtnkpogjiiohapaaGreatDoor
