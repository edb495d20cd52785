import Derived.Test.YtbnfkjkoinbkgaaGreatDoorVAbb
import Derived.Test.YtbnfkjkoinbkgaaGreatDoorVNumB
import Derived.Test.YtbnfkjkoinbkgaaGreatDoorRows
import Derived.WalkLawsBesides
import Derived.BigGuardPart
import Derived.BigQuiet
import Derived.Deep.QuietTactic
import Derived.Deep.DeepFit
import Derived.Deep.DeepCutAuto
import Derived.Outline
import Derived.Lib.Walk
import Derived.Lib.Strings
import Derived.Lib.SlBytesConst
import Derived.BigCall
import Derived.BigGuard
import Derived.Laws.Strings3
import Derived.Laws.IdiomStrings
import Derived.Lib.EndianBits
import Derived.Laws.BitsAllLaws
namespace Go.Proofs.YtbnfkjkoinbkgaaGreatDoor
open Go.RowKit
theorem Qgk{k:IntKind}{a b:Int}(h:a=b):Ending.returned (.int k a)=.returned (.int k b):=by rw[h]
theorem Qak:(Tryz.prog.info? 5).map (fun i=>(i.zero,i.size,i.bytes))=some (some (.int .u8 0),1,1):=by kernel_rfl
theorem Qdc(W:World):(sizeOf 5).run Tryz.prog W=.ok 1 W:=by kernel_rfl
theorem Ql7(w:World)(C:Array Value)(n c:Nat):(convert 29 29 (.slice (some ⟨w.heap.size,0,none⟩) n c)).run Tryz.prog (w.alloc (.cells C 5))=.ok (.slice (some ⟨w.heap.size,0,none⟩) n c) (w.alloc (.cells C 5 (C.size,C.size+1))) :=
 Lib.run_convert_bytes_const w _ _ C n c (by kernel_rfl) (by kernel_rfl)
theorem Qw9(A A':OA)(n c n' c' B B':Nat)(l l':LB)(w:World)(h:Rd w B A n l)(h':Rd w B' A' n' l') :
  Calls Tryz.prog 9 #[.slice A n c,.slice A' n' c'] w fun e w'=>e=.returned (.bool (l==l'))∧w=w':=by
 have g:=Qgh (P:=Tryz.prog) (c:=c) h 29 5 9 Tryz.underlying29 Tryz.underlying5 Tryz.underlying9;have g':=Qgh (P:=Tryz.prog) (c:=c') h' 29 5 9 Tryz.underlying29 Tryz.underlying5 Tryz.underlying9;clear h h';go_enter Tryz.func9,Tryz.ntmps9;go_wp2
 go_ret;exact⟨rfl,rfl⟩
theorem Qto(A A':OA)(n c n' c' B B':Nat)(l:LB)(w:World)(h:Rd w B A n l)(h':Rd w B' A' n' l) :
  Calls Tryz.prog 9 #[.slice A n c,.slice A' n' c'] w fun e w'=>e=.returned (.bool true)∧w=w' :=
 (Qw9 A A' n c n' c' B B' l l w h h').mono fun _ _ ⟨he,hw⟩=>⟨by rw[he,show(l==l)=true by simp],hw⟩
end Go.Proofs.YtbnfkjkoinbkgaaGreatDoor
