import Derived.Test.YtlecbblmaadpiaaGreatDoorKBlkF
namespace Go.Proofs.YtlecbblmaadpiaaGreatDoor
open Go.RowKit
theorem below_put5 {B g:Nat} {w W':World} {u0 u1 u2 u3 u4:Value} (h:Below B w W') (hg:B≤g):Below B w (((((W'.setCell ⟨g,0,none⟩ u0).setCell ⟨g,1,none⟩ u1).setCell ⟨g,2,none⟩ u2).setCell ⟨g,3,none⟩ u3).setCell ⟨g,4,none⟩ u4) :=
 (((((h.setCell (p:=⟨g,0,none⟩) hg _).setCell (p:=⟨g,1,none⟩) hg _).setCell (p:=⟨g,2,none⟩) hg _).setCell (p:=⟨g,3,none⟩) hg _).setCell (p:=⟨g,4,none⟩) hg _)
theorem zero5 {w w':World} {g:Nat} (hg:g=w.heap.size) (h:Below (g+1) (w.alloc (.cells #[.int .u64 0,.int .u64 0,.int .u64 0,.int .i64 0,.slice none 0 0] 48)) w') :
  (w'.cell? ⟨g,0,none⟩=some (.int .u64 0)∧w'.cell? ⟨g,1,none⟩=some (.int .u64 0)∧w'.cell? ⟨g,2,none⟩=some (.int .u64 0)∧w'.cell? ⟨g,3,none⟩=some (.int .i64 0)∧w'.cell? ⟨g,4,none⟩=some (.slice none 0 0)) ∧
  (w'.frozen? ⟨g,0,none⟩=false∧w'.frozen? ⟨g,1,none⟩=false∧w'.frozen? ⟨g,2,none⟩=false∧w'.frozen? ⟨g,3,none⟩=false∧w'.frozen? ⟨g,4,none⟩=false):=by
 refine ⟨box5 hg h,?_⟩
 subst hg
 refine ⟨?_,?_,?_,?_,?_⟩ <;> (rw [h.frozen (Nat.lt_succ_self _)];simp)
theorem RdI.cells {w:World} {B:Nat} {c0 c1 c2 c3:Value} {k:Int} {n:Nat} {d:List UInt8} {l:List Itm} (h:RdI w B (.agg #[c0,c1,c2,c3]) (.mk k n d l)) :
  ∃ (A:Option Addr) (nd cd:Nat),c0=.int .i64 k∧c1=.int .u64 (n:Int)∧c2=.slice A nd cd∧n<18446744073709551616∧(nd≤cd∧nd≤140737488355328)∧Rd w B A nd d:=by
 obtain ⟨A,nd,cd,AL,cl,e,-,h2,h3,h4,-,-⟩:=h.open
 injection e with e
 simp only [Array.mk.injEq,List.cons.injEq,and_true] at e
 obtain ⟨rfl,rfl,rfl,-⟩:=e
 exact ⟨A,nd,cd,rfl,rfl,rfl,h2,h3,h4⟩
theorem put5_cell {W:World} {g:Nat} {p:Addr} {u v0 v1 v2 v3 v4:Value} (h:W.cell? p=some u) (hg:¬ g=p.block):(((((W.setCell ⟨g,0,none⟩ v0).setCell ⟨g,1,none⟩ v1).setCell ⟨g,2,none⟩ v2).setCell ⟨g,3,none⟩ v3).setCell ⟨g,4,none⟩ v4).cell? p=some u:=by
 rw [World.cell?_setCell_far _ _ _ _ hg,World.cell?_setCell_far _ _ _ _ hg,World.cell?_setCell_far _ _ _ _ hg,World.cell?_setCell_far _ _ _ _ hg,World.cell?_setCell_far _ _ _ _ hg]
 exact h
theorem drew_cell {W:World} {p:Addr} {u:Value} (h:W.cell? p=some u):W.drew.cell? p=some u:=h
theorem put5_drew {W:World} {g:Nat} {p:Addr} {u v0 v1 v2 v3 v4:Value} (h:W.cell? p=some u) (hg:¬ g=p.block):(((((W.setCell ⟨g,0,none⟩ v0).setCell ⟨g,1,none⟩ v1).setCell ⟨g,2,none⟩ v2).setCell ⟨g,3,none⟩ v3).setCell ⟨g,4,none⟩ v4).drew.cell? p=some u:=drew_cell (put5_cell h hg)
theorem wf_wrap64 (n:Int):(Lit.int .i64 (wrap64 n)).wf=true:=by
 simp only [Lit.wf,IntKind.min,IntKind.max,IntKind.signed,IntKind.bits,wrap64,Bool.and_eq_true,decide_eq_true_eq,if_true]
 omega
end Go.Proofs.YtlecbblmaadpiaaGreatDoor
