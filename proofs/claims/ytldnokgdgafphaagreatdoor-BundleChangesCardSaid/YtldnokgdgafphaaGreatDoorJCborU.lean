/- What write of layer 3's reference returns, of a right item. What write of layer 3's reference returns, of every right item. -/
import Derived.Test.YtldnokgdgafphaaGreatDoorJKHead
import Derived.Deep.RegionHeld3
namespace Go.Proofs.YtldnokgdgafphaaGreatDoor
open Go.RowKit
section
variable {P:Program} {w:World}
end
theorem wrs_app:∀ (a b:List Itm),wrs (a++b)=wrs a++wrs b
  | [],b=>by rw [wrs];rfl
  | x::r,b=>by rw [List.cons_append,wrs,wrs,wrs_app r b,List.append_assoc]
theorem wrs_take (l:List Itm) (j:Nat) (h:j<l.length):wrs (l.take (j+1))=wrs (l.take j)++wri (l[j]'h):=by
  rw [List.take_succ_eq_append_getElem h,wrs_app,wrs,wrs,List.append_nil]
theorem wrs_take_len (l:List Itm) (j:Nat):(wrs (l.take j)).length≤(wrs l).length:=by
  conv=>rhs;rw [← List.take_append_drop j l,wrs_app,List.length_append]
  omega
theorem right_get:∀ {l:List Itm},rights l=true→∀ {i:Nat} (hi:i<l.length),right (l[i]'hi)=true
  | [],_,_,hi=>absurd hi (Nat.not_lt_zero _)
  | x::r,h,0,_=>by rw [rights,Bool.and_eq_true] at h;exact h.1
  | x::r,h,i+1,hi=>by rw [rights,Bool.and_eq_true] at h;exact right_get h.2 (i:=i) (by simpa using hi)
end Go.Proofs.YtldnokgdgafphaaGreatDoor
