/- Gathered texts. -/
import Derived.Test.YtflehmepjhikcaaDoorMG
set_option maxRecDepth 100000
set_option maxHeartbeats 8000000
namespace Go.Proofs.YtflehmepjhikcaaDoor
open Go.ChangeShapes Go.WideShapes Go.ChangeAt Go.RowKit
theorem one_app (c:UInt8):((⟨#[c]⟩:ByteArray)++⟨#[]⟩)=⟨#[c]⟩:=by
 apply ByteArray.ext;simp
theorem one_full (c:UInt8):((⟨#[c]⟩:ByteArray)++⟨#[]⟩).toList.isEmpty=false:=by
 rw[one_app];unfold ByteArray.toList;rw[ByteArray.toList.loop];rw[ByteArray.toList.loop];simp[ByteArray.size]
theorem digits_any (n:Int)(w:World)(h0:0≤n)(h9:n≤9):
  Calls Tryd.prog 12 #[.int .i64 n] w fun e w'=>e = .returned (strV (dgA n))∧Keep w w':=by
 have hconv:=conv_one;have hful:=one_full;have hn:n=0∨n=1∨n=2∨n=3∨n=4∨n=5∨n=6∨n=7∨n=8∨n=9:=by omega
 rcases hn with rfl|rfl|rfl|rfl|rfl|rfl|rfl|rfl|rfl|rfl <;>
 ·
  go_enter Tryd.func12,Tryd.ntmps12
  go_wp2;refine wp_loop_rounds 2 ?_;rw[rounds_succ];go_wp2;rw[rounds_succ];go_wp2;go_ret;exact⟨congrArg Ending.returned (str_cons _ []),(Keep.refl w).alloc _⟩
end Go.Proofs.YtflehmepjhikcaaDoor
