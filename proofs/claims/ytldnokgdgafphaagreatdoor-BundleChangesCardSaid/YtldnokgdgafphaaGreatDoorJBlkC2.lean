/- What Check of layer 5 returns. -/
import Derived.Test.YtldnokgdgafphaaGreatDoorJBlkC
namespace Go.Proofs.YtldnokgdgafphaaGreatDoor
open Go.RowKit
set_option maxRecDepth 100000 in
set_option maxHeartbeats 1000000 in
theorem bccheck_any (t n f:Nat) (c:Int) (A:Option Addr) (nd cd:Nat) (d:List UInt8) (w:World) (hd:d.length=nd) :
    Calls Tryz.prog 77 #[blkV t n f c A nd cd] w fun e w'=>e=.returned (.bool (blkOk ⟨t,n,f,c,d⟩))∧Below w.heap.size w w':=by
  have C1:=Lib.hid (fun W=>bcheck_any t n f c A nd cd d W hd)
  have q2:=fun (W:World) (u:TypeId) (x:Value)=>run_eql_iface_nil (P:=Tryz.prog) (w:=W) 56 (by kernel_rfl) u x
  clear hd
  generalize blkOk ⟨t,n,f,c,d⟩=R at *
  unfold blkV at *
  go_enter Tryz.func77,Tryz.ntmps77
  go_wp2_with fail
  refine (C1.out _).mono ?_
  rintro e w1 ⟨hb,⟨rfl,rfl⟩ | ⟨rfl,s,rfl⟩⟩
  · have HB:=Lib.hid (((Below.refl _ _).alloc (Nat.le_refl _) _).trans (hb.mono (le_alloc _ _)))
    clear hb
    go_wp2_with fail
    go_ret
    exact ⟨rfl,HB.out⟩
  · have HB:=Lib.hid (((Below.refl _ _).alloc (Nat.le_refl _) _).trans (hb.mono (le_alloc _ _)))
    clear hb
    unfold bfl at *
    go_wp2_with fail
    go_ret
    exact ⟨rfl,HB.out⟩
end Go.Proofs.YtldnokgdgafphaaGreatDoor
