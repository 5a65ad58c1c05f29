/-
  Contracts of the functions that the statements of package slot go through: a slot's bytes. Condition: the slot is 104 bytes.
-/
import Derived.Test.YtplffbpnjnbolaaReadsA
import Derived.Deep.RegionHeld3
import Derived.StillTailTactics
import Derived.OwnWalk
namespace Go.Proofs.Ytplffbpnjnbolaa
open Go.RowKit
/-- n noughts. -/
def zs (n : Nat) : List Int := List.replicate n 0
theorem zs_len (n : Nat) : (zs n).length = n := by simp [zs]
theorem zs_byt (n : Nat) : Byt (zs n) := fun x h => by rw [zs, List.mem_replicate] at h; omega
theorem zs_drop (n k : Nat) : (zs n).drop k = zs (n - k) := by simp [zs]
theorem zs_take (n k : Nat) (h : k ≤ n) : (zs n).take k = zs k := by simp [zs, List.take_replicate, Nat.min_eq_left h]
theorem zs_add (n k : Nat) : zs n ++ zs k = zs (n + k) := by simp [zs]
theorem alloc_setRowT (w : World) (o cs : Array Value) (t : TypeId) (g : Nat) (hg : w.heap.size = g) : (w.alloc (.cells o t)).setRow g cs = w.alloc (.cells cs t) := by
  subst hg
  cases w with
  | mk heap tape drawn os output =>
    simp only [World.setRow, World.alloc]
    congr 1
    apply Array.ext
    · simp
    · intro k h1 h2
      simp only [Array.getElem_modify, Array.getElem_push]
      split
      · rename_i hk; subst hk; simp
      · rename_i hk
        have : k < heap.size := by simp at h1; omega
        simp [this]
/-- A call of copy whose run is known, in a plain region. -/
theorem wpList_copy_run {ops : Array Oper} {rest : List Oper} {o : Oper} {a : Act} {w : World} {Q : Exit → Act → World → Prop} (hgd : o.guard = none) (s x : Operand)
    (ho : o.op = .call { callee := .builtin .copy, args := #[s, x], argTypes := #[30, 30] }) (hty : o.type = 3) {v u v' : Value} {w' : World} (hs : a.eval s = v) (hx : a.eval x = u)
    (hr : (Builtin.copy_ #[30, 30] 3 #[v, u]).run Try.prog w = .ok v' w') (h : wpList Try.prog ops Q rest (a.put o.dst v') w') : wpList Try.prog ops Q (o :: rest) a w := by
  refine wpList_plain hgd fun K hK => ?_
  unfold Oper.wp execOp
  simp only [ho, hty, resolve, invoke, builtin, Sem.run_bind, Sem.run_pure, Result.andThen_ok, List.map_toArray, List.map_cons, List.map_nil, hs, hx, hr]
  exact hK _ _ h
theorem blk_lt {w : World} {g : Nat} {o : Obj} (h : w.heap[g]? = some o) : g < w.heap.size := (Array.getElem?_eq_some_iff.1 h).1
theorem below_row {B g : Nat} (w : World) (cs : Array Value) (hg : B ≤ g) : Below B w (w.setRow g cs) :=
  ⟨rfl, rfl, rfl, by simp, fun k hk => setRow_other w g k cs (by omega)⟩
theorem bcells_append (xs ys : List Int) : bcells (xs ++ ys) = bcells xs ++ bcells ys := by simp [bcells]
theorem bcells_toList (xs : List Int) : (bcells xs).toList = xs.map (Value.int .u8) := by simp [bcells]
theorem bcells_size (xs : List Int) : (bcells xs).size = xs.length := by simp [bcells]
/-- A part of a row of bytes, copied to a place of the newest row. -/
theorem cpy (W1 : World) (t : TypeId) (L ys : List Int) (g o dl dc : Nat) (a : Addr) (sl sc : Nat) (hg : W1.heap.size = g) (hn : ys.length = Nat.min sl dl)
    (hsrc : ∀ j, j < ys.length → (W1.alloc (.cells (bcells L) t)).cell? (a.add j) = some (.int .u8 (nth ys j))) (hfit : o + ys.length ≤ L.length) :
    (Builtin.copy_ #[30, 30] 3 #[.slice (some ⟨g, o, none⟩) dl dc, .slice (some a) sl sc]).run Try.prog (W1.alloc (.cells (bcells L) t)) =
      .ok (.int .i64 ys.length) (W1.alloc (.cells (bcells (L.take o ++ ys ++ L.drop (o + ys.length))) t)) := by
  have hl : ((ys.map (Value.int .u8))).length = ys.length := by simp
  rw [run_copy_row Try.prog _ 30 30 3 5 g o dl dc a sl sc (bcells L) t (ys.map (Value.int .u8)) Try.underlying30 info5s (by subst hg; exact heap_alloc_new W1 _)
    (by rw [hl]; exact hn) (fun j u hj => by
      have hjl : j < ys.length := by
        rcases Nat.lt_or_ge j ys.length with h | h
        · exact h
        · simp [List.getElem?_eq_none (show (ys.map (Value.int .u8)).length ≤ j by simpa using h)] at hj
      rw [hsrc j hjl, ← hj]
      simp [nth, List.getD, hjl]) (by rw [hl, bcells_size]; exact hfit) (by simp [Value.oneCell'])]
  rw [alloc_setRowT _ _ _ _ _ hg]
  simp [bcells, goInt, List.map_take, List.map_drop]
set_option maxRecDepth 100000 in
theorem z512 (w : World) : (zeroValue 74).run Try.prog w = .ok (.agg (bcells (zs 512))) w := by kernel_rfl
set_option maxRecDepth 100000 in
theorem z104 (w : World) : (zeroValue 61).run Try.prog w = .ok (.agg (bcells (zs 104))) w := by kernel_rfl
theorem sees_rowT (w : World) (g : Nat) (t : TypeId) (xs : List Int) (hb : Byt xs) (hm : xs.length ≤ maxLen) (h : w.heap[g]? = some (.cells (bcells xs) t (0, 0))) (n : Nat) (hn : n = xs.length) : Sees w (.slice (some ⟨g, 0, none⟩) n n) xs := by
  subst hn
  refine ⟨hb, ?_⟩
  by_cases h0 : xs = []
  · subst h0; exact .inr (.inl ⟨_, _, rfl, rfl, by simp [maxLen]⟩)
  · refine .inr (.inr ⟨_, _, _, rfl, h0, Nat.le_refl _, hm, fun i hi => ?_⟩)
    rw [cell_of_row _ _ _ _ _ _ h]
    simp [bcells, nth, hi, List.getD]
/-- A slot's bytes. -/
def sW (xs : List Int) : List Int := [75, 0, 0, 0, 0, 0, 0, 0] ++ xs ++ zs 400
theorem sW_len (xs : List Int) (hl : xs.length = 104) : (sW xs).length = 512 := by simp [sW, hl, zs_len]
theorem sW_byt (xs : List Int) (hx : Byt xs) : Byt (sW xs) := (Byt.append (byt_of _ rfl) hx).append (zs_byt _)
/-- The cells of a part of a row of bytes. -/
theorem part_cell (W : World) (b : Nat) (t : TypeId) (xs : List Int) (hb : W.heap[b]? = some (.cells (bcells xs) t (0, 0))) (o n : Nat) (ho : o + n ≤ xs.length) (j : Nat) (hj : j < ((xs.drop o).take n).length) :
    W.cell? ((⟨b, o, none⟩ : Addr).add j) = some (.int .u8 (nth ((xs.drop o).take n) j)) := by
  have hplain : (⟨b, o, none⟩ : Addr).add j = ⟨b, o + j, none⟩ := by unfold Addr.add; split <;> simp_all
  have hjn : j < n := by simp at hj; omega
  have hlt : o + j < xs.length := by omega
  rw [hplain, cell_of_row _ _ _ _ _ _ hb]
  simp [bcells, nth, List.getD, List.getElem?_take_of_lt hjn, List.getElem?_drop, hlt]
theorem part_len (xs : List Int) (o n : Nat) (h : o + n ≤ xs.length) : ((xs.drop o).take n).length = n := by simp; omega
theorem part3 (xs : List Int) (hl : xs.length = 104) : ∃ p1 p2 p3 : List Int, xs = p1 ++ p2 ++ p3 ∧ p1.length = 32 ∧ p2.length = 32 ∧ p3.length = 40 ∧ (xs.drop 0).take 32 = p1 ∧ (xs.drop 32).take 32 = p2 ∧ (xs.drop 64).take 40 = p3 := by
  refine ⟨xs.take 32, (xs.drop 32).take 32, (xs.drop 64).take 40, ?_, by simp; omega, by simp; omega, by simp; omega, rfl, rfl, rfl⟩
  have e1 : xs.drop 32 = (xs.drop 32).take 32 ++ xs.drop 64 := by
    have := (List.take_append_drop 32 (xs.drop 32)).symm
    rwa [List.drop_drop] at this
  have e2 : (xs.drop 64).take 40 = xs.drop 64 := List.take_of_length_le (by simp; omega)
  rw [e2, List.append_assoc, ← e1, List.take_append_drop]
/-- A part of a row is put into place. -/
theorem put_at (a c d p : List Int) (o n : Nat) (ha : a.length = o) (hc : c.length = n) (hp : p.length = n) : (a ++ (c ++ d)).take o ++ p ++ (a ++ (c ++ d)).drop (o + n) = (a ++ p) ++ d := by
  subst ha hc
  rw [List.take_left, ← List.append_assoc a c d, List.drop_left' (by simp)]
set_option maxRecDepth 100000 in
set_option maxHeartbeats 4000000 in
/-- Write: a new row. -/
theorem slotW (xs : List Int) (hx : Byt xs) (hl : xs.length = 104) (w : World) : Calls Try.prog 26 #[.agg (bcells xs)] w (NewP w 512 (sW xs)) := by
  obtain ⟨W1, hW1⟩ : ∃ W1, W1 = w.alloc (.cells (bcells xs) 61) := ⟨_, rfl⟩
  have hs1 : W1.heap.size = w.heap.size + 1 := by rw [hW1]; simp
  have hr : W1.heap[w.heap.size]? = some (.cells (bcells xs) 61 (0, 0)) := by rw [hW1]; exact heap_alloc_new w _
  have hra : ∀ o, (W1.alloc o).heap[w.heap.size]? = some (.cells (bcells xs) 61 (0, 0)) := fun o => by rw [Below.heap_alloc _ _ _ (by omega)]; exact hr
  obtain ⟨q1, q2, q3, hq, n1, n2, n3, e1, e2, e3⟩ := part3 xs hl
  obtain ⟨L0, hL0⟩ : ∃ L : List Int, L = 75 :: zs 511 := ⟨_, rfl⟩
  have l0 : L0.length = 512 := by rw [hL0]; simp [zs_len]
  have s0 : L0 = [75, 0, 0, 0, 0, 0, 0, 0] ++ (zs 32 ++ zs 472) := by rw [hL0, zs_add]; rfl
  have hst : ((W1.alloc (.cells (bcells (zs 512)) 74)).setCell ⟨w.heap.size + 1, 0, none⟩ (.int .u8 75)) = W1.alloc (.cells (bcells L0) 74) := by
    rw [setCell_eq_setRow _ (w.heap.size + 1) 0 _ _ _ _ (by rw [← hs1]; exact heap_alloc_new W1 _), alloc_setRowT _ _ _ _ _ hs1, hL0]
    rfl
  have hfz : (W1.alloc (.cells (bcells (zs 512)) 74)).frozen? ⟨w.heap.size + 1, 0, none⟩ = false := frozen_block (by rw [← hs1]; exact heap_alloc_new W1 _) 0
  have hc0 : (W1.alloc (.cells (bcells (zs 512)) 74)).cell? ⟨w.heap.size + 1, 0, none⟩ = some (.int .u8 0) := by
    rw [cell_of_row _ _ _ _ _ _ (show _ = some (Obj.cells (bcells (zs 512)) 74 (0, 0)) by rw [← hs1]; exact heap_alloc_new W1 _)]; rfl
  have p1 := part_len xs 0 32 (by omega)
  have p2 := part_len xs 32 32 (by omega)
  have p3 := part_len xs 64 40 (by omega)
  have c1 := cpy W1.drew 74 L0 ((xs.drop 0).take 32) (w.heap.size + 1) 8 504 504 ⟨w.heap.size, 0, none⟩ 32 32 hs1 (by rw [p1]; decide) (fun j hj => part_cell _ _ 61 xs (hra _) 0 32 (by omega) j hj) (by rw [p1, l0]; omega)
  rw [p1] at c1
  obtain ⟨L1, hL1⟩ : ∃ L : List Int, L = L0.take 8 ++ (xs.drop 0).take 32 ++ L0.drop (8 + 32) := ⟨_, rfl⟩
  rw [← hL1] at c1
  have l1 : L1.length = 512 := by rw [hL1]; simp [l0, hl]
  have c2 := cpy W1.drew.drew 74 L1 ((xs.drop 32).take 32) (w.heap.size + 1) 40 472 472 ⟨w.heap.size, 32, none⟩ 32 32 hs1 (by rw [p2]; decide) (fun j hj => part_cell _ _ 61 xs (hra _) 32 32 (by omega) j hj) (by rw [p2, l1]; omega)
  rw [p2] at c2
  obtain ⟨L2, hL2⟩ : ∃ L : List Int, L = L1.take 40 ++ (xs.drop 32).take 32 ++ L1.drop (40 + 32) := ⟨_, rfl⟩
  rw [← hL2] at c2
  have l2 : L2.length = 512 := by rw [hL2]; simp [l1, hl]
  have c3 := cpy W1.drew.drew.drew 74 L2 ((xs.drop 64).take 40) (w.heap.size + 1) 72 440 440 ⟨w.heap.size, 64, none⟩ 40 40 hs1 (by rw [p3]; decide) (fun j hj => part_cell _ _ 61 xs (hra _) 64 40 (by omega) j hj) (by rw [p3, l2]; omega)
  rw [p3] at c3
  have hS : L2.take 72 ++ (xs.drop 64).take 40 ++ L2.drop (72 + 40) = sW xs := by
    have s1 : L1 = ([75, 0, 0, 0, 0, 0, 0, 0] ++ q1) ++ (zs 32 ++ zs 440) := by rw [hL1, s0, e1, put_at _ _ _ _ 8 32 rfl (zs_len _) n1, zs_add]
    have s2 : L2 = ([75, 0, 0, 0, 0, 0, 0, 0] ++ q1 ++ q2) ++ (zs 40 ++ zs 400) := by rw [hL2, s1, e2, put_at _ _ _ _ 40 32 (by simp [n1]) (zs_len _) n2, zs_add]
    rw [s2, e3, put_at _ _ _ _ 72 40 (by simp [n1, n2]) (zs_len _) n3, hq]
    simp [sW]
  rw [hS] at c3
  have C1' : Hid ((Builtin.copy_ #[30, 30] 3 #[.slice (some ⟨w.heap.size + 1, 8, none⟩) 504 504, .slice (some ⟨w.heap.size, 0, none⟩) 32 32]).run Try.prog (W1.alloc (.cells (bcells L0) 74)).drew = .ok (.int .i64 32) (W1.alloc (.cells (bcells L1) 74)).drew) := c1
  have C2' : Hid ((Builtin.copy_ #[30, 30] 3 #[.slice (some ⟨w.heap.size + 1, 40, none⟩) 472 472, .slice (some ⟨w.heap.size, 32, none⟩) 32 32]).run Try.prog (W1.alloc (.cells (bcells L1) 74)).drew.drew = .ok (.int .i64 32) (W1.alloc (.cells (bcells L2) 74)).drew.drew) := c2
  have C3' : Hid ((Builtin.copy_ #[30, 30] 3 #[.slice (some ⟨w.heap.size + 1, 72, none⟩) 440 440, .slice (some ⟨w.heap.size, 64, none⟩) 40 40]).run Try.prog (W1.alloc (.cells (bcells L2) 74)).drew.drew.drew = .ok (.int .i64 40) (W1.alloc (.cells (bcells (sW xs)) 74)).drew.drew.drew) := c3
  clear c1 c2 c3
  have SE : Hid (Sees (W1.alloc (.cells (bcells (sW xs)) 74)).drew.drew.drew (.slice (some ⟨w.heap.size + 1, 0, none⟩) 512 512) (sW xs)) := by
    have hb : (W1.alloc (.cells (bcells (sW xs)) 74)).heap[w.heap.size + 1]? = some (.cells (bcells (sW xs)) 74 (0, 0)) := by rw [← hs1]; exact heap_alloc_new W1 _
    exact sees_rowT _ _ 74 _ (sW_byt xs hx) (by rw [sW_len xs hl]; decide) hb _ (sW_len xs hl).symm
  have BE : Hid (Below w.heap.size w (W1.alloc (.cells (bcells (sW xs)) 74)).drew.drew.drew) := by show Below _ _ _; rw [hW1]; exact ((((Below.refl _ _).alloc (Nat.le_refl _) _).alloc (by simp) _).drew.drew.drew)
  have HZ := z512
  generalize bcells (sW xs) = C3 at *
  generalize bcells L2 = C2 at *
  generalize bcells L1 = C1 at *
  generalize bcells L0 = C0 at *
  generalize (W1.alloc (.cells C3 74)).drew.drew.drew = V3 at *
  generalize (W1.alloc (.cells C2 74)).drew.drew = V2 at *
  generalize (W1.alloc (.cells C1 74)).drew = V1 at *
  generalize W1.alloc (.cells C0 74) = V0 at *
  generalize sW xs = S at *
  clear hS l0 l1 l2 p1 p2 p3 hL0 hL1 hL2 hra hr hx hl s0 hq n1 n2 n3 e1 e2 e3 q1 q2 q3
  rw [hW1] at hst hfz hc0
  clear hW1 hs1 W1
  go_enter Try.func26, Try.ntmps26
  go_wp2_with fail
  go_still_tail 3, (by kernel_rfl)
  go_wp2_with (refine wpList_copy_run rfl (.tmp 5) (.tmp 7) rfl rfl rfl rfl C1'.out ?_)
  go_still_tail 3, (by kernel_rfl)
  go_wp2_with (refine wpList_copy_run rfl (.tmp 9) (.tmp 11) rfl rfl rfl rfl C2'.out ?_)
  go_still_tail 3, (by kernel_rfl)
  go_wp2_with (refine wpList_copy_run rfl (.tmp 13) (.tmp 15) rfl rfl rfl rfl C3'.out ?_)
  go_ret
  exact ⟨_, rfl, SE.out, BE.out, by omega⟩
end Go.Proofs.Ytplffbpnjnbolaa
