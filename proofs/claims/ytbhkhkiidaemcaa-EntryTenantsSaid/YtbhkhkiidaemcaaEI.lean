/-
  Structs are built of their fields. Condition: the sums are 32 bytes.
-/
import Derived.Test.YtbhkhkiidaemcaaEH
namespace Go.Proofs.Ytbhkhkiidaemcaa
open Go.RowKit
theorem fold_set (off : Nat) : ∀ (xs : List Value) (k : Nat) (A : List Value), off + k + xs.length ≤ A.length →
    ((xs.zipIdx k).foldl (fun cs p => cs.setIfInBounds (off + p.2) p.1) A.toArray) = (A.take (off + k) ++ xs ++ A.drop (off + k + xs.length)).toArray
  | [], k, A, _ => by simp
  | x :: xs, k, A, h => by
    simp only [List.length_cons] at h
    rw [List.zipIdx_cons, List.foldl_cons]
    simp only [List.setIfInBounds_toArray]
    rw [fold_set off xs (k + 1) (A.set (off + k) x) (by rw [List.length_set]; omega)]
    congr 1
    rw [List.take_set, List.drop_set, if_pos (by omega), ← Nat.add_assoc, List.take_succ_eq_append_getElem (by omega)]
    rw [List.set_append_right _ _ (by simp; omega)]
    simp [Nat.min_eq_left (show off + k ≤ A.length by omega), show off + k + 1 + xs.length = off + k + (xs.length + 1) by omega]
theorem fill_cons (place : Nat → Option (Nat × Nat)) (A : List Value) (i off n : Nat) (v : Value) (rest : List (Nat × Value)) (hp : place i = some (off, n)) (hn : v.cells.size = n) (hf : off + n ≤ A.length) :
    Instr.fill place A.toArray ((i, v) :: rest) = Instr.fill place (A.take off ++ v.cells.toList ++ A.drop (off + n)).toArray rest := by
  have h := fold_set off v.cells.toList 0 A (by simpa [hn] using hf)
  simp only [Nat.add_zero, Array.length_toList, hn] at h
  have h2 : v.cells.zipIdx.foldl (fun cs (x : Value × Nat) => cs.setIfInBounds (off + x.2) x.1) A.toArray = (A.take off ++ v.cells.toList ++ A.drop (off + n)).toArray := by
    rw [← h, ← Array.foldl_toList, Array.toList_zipIdx]
  show (match place i with
    | none => none
    | some (off, size) => if v.cells.size ≠ size || off + v.cells.size > A.toArray.size then none else Instr.fill place (v.cells.zipIdx.foldl (fun cs (c, j) => cs.setIfInBounds (off + j) c) A.toArray) rest) = _
  rw [hp]
  simp only [hn]
  rw [if_neg (by simp; omega)]
  exact congrArg (fun x => Instr.fill place x rest) h2
theorem run_build_struct (t : TypeId) (zc : List Value) (places : List (Nat × Nat)) (hz : (Try.prog.info? t).map (·.zero) = some (some (.agg zc.toArray))) (hu : Try.prog.underlying t = some (.struct (Try.prog.fieldsOf t)))
    (hp : (Try.prog.fieldsOf t).toList.mapM (fun f => (Try.prog.info? f.type).map fun i => (f.offset, i.size)) = some places) (parts : Array (Nat × Value)) (cells : List Value) (hf : Instr.fill (places.toArray[·]?) zc.toArray parts.toList = some cells.toArray) (w : World) :
    (Instr.build t parts).run Try.prog w = .ok (.agg cells.toArray) w := by
  refine run_build w t parts _ ?_
  unfold Program.built
  cases hit : Try.prog.info? t with
  | none => simp [hit] at hz
  | some it =>
    have hz' : it.zero = some (.agg zc.toArray) := by simpa [hit] using hz
    simp only [hu, hz', hp]
    exact hf
theorem drop_zero_of {xs : List Value} {n : Nat} (h : xs.length ≤ n) : xs.drop n = [] := List.drop_eq_nil_of_le h
set_option maxRecDepth 100000 in
theorem bld35c (s : Int) (z : List Int) (hl : z.length = 32) (w : World) : (Instr.build 35 #[(0, .int .u32 s), (1, .agg (bcells z))]).run Try.prog w = .ok (.agg (rcells s z).toArray) w := by
  refine run_build_struct 35 (rcells 0 (zs 32)) [(0, 1), (1, 32)] (by kernel_rfl) (by kernel_rfl) (by kernel_rfl) _ _ ?_ w
  rw [fill_cons _ _ 0 0 1 _ _ rfl rfl (by simp [rcells, zs]), fill_cons _ _ 1 1 32 _ _ rfl (by simp [Value.cells, bcells, hl]) (by simp [rcells, zs, Value.cells])]
  simp [Instr.fill, Value.cells, rcells, bcells, zs]
set_option maxRecDepth 100000 in
theorem bld37c (s : Int) (z : List Int) (t : Int) (hl : z.length = 32) (w : World) : (Instr.build 37 #[(0, .agg (rcells s z).toArray), (1, .int .u64 t)]).run Try.prog w = .ok (.agg (kcells s z t)) w := by
  refine run_build_struct 37 (rcells 0 (zs 32) ++ [Value.int .u64 0]) [(0, 33), (33, 1)] (by kernel_rfl) (by kernel_rfl) (by kernel_rfl) _ _ ?_ w
  rw [fill_cons _ _ 0 0 33 _ _ rfl (by simp [Value.cells, rcells, hl]) (by simp [rcells, zs]), fill_cons _ _ 1 33 1 _ _ rfl rfl (by simp [rcells, zs, Value.cells, hl])]
  simp [Instr.fill, Value.cells, rcells, zs, hl, List.drop_append]
set_option maxRecDepth 100000 in
theorem bld55c (h : Bool) (s : Int) (z : List Int) (hl : z.length = 32) (w : World) : (Instr.build 55 #[(0, .bool h), (1, .agg (rcells s z).toArray)]).run Try.prog w = .ok (.agg (ocells h s z)) w := by
  refine run_build_struct 55 (.bool false :: rcells 0 (zs 32)) [(0, 1), (1, 33)] (by kernel_rfl) (by kernel_rfl) (by kernel_rfl) _ _ ?_ w
  rw [fill_cons _ _ 0 0 1 _ _ rfl rfl (by simp [rcells, zs]), fill_cons _ _ 1 1 33 _ _ rfl (by simp [Value.cells, rcells, hl]) (by simp [rcells, zs, Value.cells])]
  simp [Instr.fill, Value.cells, rcells, zs]
set_option maxRecDepth 100000 in
theorem bld57c (z : List Int) (r q c : Int) (hl : z.length = 32) (w : World) : (Instr.build 57 #[(0, .agg (bcells z)), (1, .int .i64 r), (2, .int .i64 q), (3, .int .i64 c)]).run Try.prog w = .ok (.agg (ncells z r q c)) w := by
  refine run_build_struct 57 ((zs 32).map (Value.int .u8) ++ [Value.int .i64 0, Value.int .i64 0, Value.int .i64 0]) [(0, 32), (32, 1), (33, 1), (34, 1)] (by kernel_rfl) (by kernel_rfl) (by kernel_rfl) _ _ ?_ w
  rw [fill_cons _ _ 0 0 32 _ _ rfl (by simp [Value.cells, bcells, hl]) (by simp [zs]), fill_cons _ _ 1 32 1 _ _ rfl rfl (by simp [zs, Value.cells, bcells, hl]), fill_cons _ _ 2 33 1 _ _ rfl rfl (by simp [zs, Value.cells, bcells, hl]), fill_cons _ _ 3 34 1 _ _ rfl rfl (by simp [zs, Value.cells, bcells, hl])]
  have hM : (z.map (Value.int .u8)).length = 32 := by simpa using hl
  unfold bcells
  generalize z.map (Value.int .u8) = M at *
  have t1 : M.take 33 = M := List.take_of_length_le (by omega)
  have t2 : M.take 34 = M := List.take_of_length_le (by omega)
  have d1 : M.drop 33 = [] := List.drop_eq_nil_of_le (by omega)
  have d2 : M.drop 34 = [] := List.drop_eq_nil_of_le (by omega)
  have d3 : M.drop 35 = [] := List.drop_eq_nil_of_le (by omega)
  simp [Instr.fill, Value.cells, zs, hM, List.take_append, List.drop_append, t1, t2, d1, d2, d3]
set_option maxRecDepth 100000 in
theorem bld30c (n b : Int) (w : World) : (Instr.build 30 #[(0, .int .u64 n), (1, .int .i64 b)]).run Try.prog w = .ok (.agg (vcells n b)) w := by kernel_rfl
set_option maxRecDepth 100000 in
theorem z35 (w : World) : (zeroValue 35).run Try.prog w = .ok (.agg (rcells 0 (zs 32)).toArray) w := by kernel_rfl
set_option maxRecDepth 100000 in
theorem z37 (w : World) : (zeroValue 37).run Try.prog w = .ok (.agg (kcells 0 (zs 32) 0)) w := by kernel_rfl
set_option maxRecDepth 100000 in
theorem z55 (w : World) : (zeroValue 55).run Try.prog w = .ok (.agg (ocells false 0 (zs 32))) w := by kernel_rfl
set_option maxRecDepth 100000 in
theorem z57 (w : World) : (zeroValue 57).run Try.prog w = .ok (.agg (ncells (zs 32) 0 0 0)) w := by kernel_rfl
set_option maxRecDepth 100000 in
theorem z30 (w : World) : (zeroValue 30).run Try.prog w = .ok (.agg (vcells 0 0)) w := by kernel_rfl
theorem i35 {s : Int} {z : List Int} (h : z.length = 32) : (Try.prog.info? 35).map (·.size) = some (rcells s z).toArray.size := by
  rw [show (rcells s z).toArray.size = 33 by simp [rcells, h]]; kernel_rfl
theorem i37 {s t : Int} {z : List Int} (h : z.length = 32) : (Try.prog.info? 37).map (·.size) = some (kcells s z t).size := by
  rw [show (kcells s z t).size = 34 by simp [kcells, rcells, h]]; kernel_rfl
theorem i55 {o : Bool} {s : Int} {z : List Int} (h : z.length = 32) : (Try.prog.info? 55).map (·.size) = some (ocells o s z).size := by
  rw [show (ocells o s z).size = 34 by simp [ocells, rcells, h]]; kernel_rfl
theorem i57 {r q c : Int} {z : List Int} (h : z.length = 32) : (Try.prog.info? 57).map (·.size) = some (ncells z r q c).size := by
  rw [show (ncells z r q c).size = 35 by simp [ncells, h]]; kernel_rfl
theorem i30 {n b : Int} : (Try.prog.info? 30).map (·.size) = some (vcells n b).size := by
  rw [show (vcells n b).size = 2 from rfl]; kernel_rfl
theorem one_r (s : Int) (z : List Int) : (rcells s z).toArray.all (·.oneCell') = true := by simp [rcells, Value.oneCell']
theorem one_k (s : Int) (z : List Int) (t : Int) : (kcells s z t).all (·.oneCell') = true := by simp [kcells, rcells, Value.oneCell']
theorem one_o (h : Bool) (s : Int) (z : List Int) : (ocells h s z).all (·.oneCell') = true := by simp [ocells, rcells, Value.oneCell']
theorem one_n (z : List Int) (r q c : Int) : (ncells z r q c).all (·.oneCell') = true := by simp [ncells, Value.oneCell']
theorem one_v (n b : Int) : (vcells n b).all (·.oneCell') = true := by simp [vcells, Value.oneCell']
end Go.Proofs.Ytbhkhkiidaemcaa
