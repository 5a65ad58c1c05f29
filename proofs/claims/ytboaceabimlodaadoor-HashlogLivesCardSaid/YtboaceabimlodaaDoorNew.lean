/-
  Contracts of the functions that the statements of package sha go through: a new hash. Condition: the eight numbers lie in their variable.
-/
import Derived.Test.YtboaceabimlodaaDoorTake
namespace Go.Proofs.YtboaceabimlodaaDoor
open Go.RowKit
/-- The cells of a hash. -/
def hcells (made : Bool) (H B : List Int) (have_ count : Int) : Array Value := (Value.bool made :: (H.map (Value.int .u32) ++ B.map (Value.int .u8) ++ [.int .i64 have_, .int .u64 count])).toArray
set_option maxRecDepth 100000 in
set_option maxHeartbeats 2000000 in
theorem new (a b c d e f g h : Int) (w : World) (fr : Nat × Nat) (hg : w.heap[0]? = some (.cells #[.int .u32 a, .int .u32 b, .int .u32 c, .int .u32 d, .int .u32 e, .int .u32 f, .int .u32 g, .int .u32 h] 64 fr)) :
    Calls Tryd.prog 31 #[] w fun e1 w' => e1 = .returned (.pointer (some ⟨w.heap.size, 0, none⟩)) ∧ w.alloc (.cells (hcells true [a, b, c, d, e, f, g, h] (List.replicate 64 0) 0 0) 67) = w' := by
  have hz : ∀ w, (zeroValue 67).run Tryd.prog w = .ok (.agg #[.bool false, .int .u32 0, .int .u32 0, .int .u32 0, .int .u32 0, .int .u32 0, .int .u32 0, .int .u32 0, .int .u32 0, .int .u8 0, .int .u8 0, .int .u8 0, .int .u8 0, .int .u8 0, .int .u8 0, .int .u8 0, .int .u8 0, .int .u8 0, .int .u8 0, .int .u8 0, .int .u8 0, .int .u8 0, .int .u8 0, .int .u8 0, .int .u8 0, .int .u8 0, .int .u8 0, .int .u8 0, .int .u8 0, .int .u8 0, .int .u8 0, .int .u8 0, .int .u8 0, .int .u8 0, .int .u8 0, .int .u8 0, .int .u8 0, .int .u8 0, .int .u8 0, .int .u8 0, .int .u8 0, .int .u8 0, .int .u8 0, .int .u8 0, .int .u8 0, .int .u8 0, .int .u8 0, .int .u8 0, .int .u8 0, .int .u8 0, .int .u8 0, .int .u8 0, .int .u8 0, .int .u8 0, .int .u8 0, .int .u8 0, .int .u8 0, .int .u8 0, .int .u8 0, .int .u8 0, .int .u8 0, .int .u8 0, .int .u8 0, .int .u8 0, .int .u8 0, .int .u8 0, .int .u8 0, .int .u8 0, .int .u8 0, .int .u8 0, .int .u8 0, .int .u8 0, .int .u8 0, .int .i64 0, .int .u64 0]) w := fun _ => by kernel_rfl
  have i40 : (Tryd.prog.info? 64).map (·.size) = some 8 := by kernel_rfl
  go_enter Tryd.func31, Tryd.ntmps31
  go_wp2_with (refine wpList_load_row rfl 64 _ rfl 0 rfl 64 _ fr _ hg Tryd.underlying64 rfl i40 ?_)
  go_ret
  exact ⟨rfl, rfl⟩
end Go.Proofs.YtboaceabimlodaaDoor
