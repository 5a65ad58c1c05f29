/-
  Contract of slices.Delete at int and at pairs of ints: one thing is taken away. Condition: the slice is a row, and the place is in it.
-/
import Derived.Test.YtfdihgahegfamaaB
import Derived.Test.YtfdihgahegfamaaR
namespace Go.Proofs.Ytfdihgahegfamaa
open Go.RowKit
theorem step_app_run {P : Program} {ops : Array Oper} {o : Oper} {a : Act} {w : World} {K : Act → World → Prop} {Q : Exit → Act → World → Prop} {E : Prop} (hgd : o.guard = none) (d s : Operand) (T : TypeId)
    (ho : o.op = .call { callee := .builtin .append, args := #[d, s], argTypes := #[T, T] }) (hty : o.type = T) {x y v : Value} {w' : World} (hd : a.eval d = x) (hs : a.eval s = y) (hr : (Builtin.append_ #[T, T] T #[x, y]).run P w = .ok v w')
    (hK : K (a.put o.dst v) w') : if Region.wanted o (yielded ops a.tmps) = true then Oper.wp P o a w K Q else E := by
  have hw : Region.wanted o (yielded ops a.tmps) = true := by simp [Region.wanted, hgd]
  rw [if_pos hw]
  unfold Oper.wp
  simp only [execOp, ho, hty, resolve, invoke, builtin, Sem.run_bind, Sem.run_pure, Result.andThen_ok, List.map_toArray, List.map_cons, List.map_nil, hd, hs, hr]
  exact hK
/-- A row behind a cut. -/
def DelP (e sz : Nat) (w : World) (v : Value) (n : Nat) (ys : List Value) (en : Ending) (w' : World) : Prop :=
  ∃ v', en = .returned v' ∧ Rw w' e sz v' n ys ∧ Mods (fun k => v.ownBlock = some k) w w' ∧ v'.ownBlock = v.ownBlock
/-- The two steps of a deletion, as runs. -/
theorem del_runs {P : Program} {t e sz : Nat} {i : TypeInfo} {z : Value} (ht : P.underlying t = some (.slice e)) (hi : P.info? e = some i) (hsize : i.size = sz) (hv : ∀ w, (zeroValue e).run P w = .ok z w) (hz : z.cells.size = sz) (h1z : ∀ c ∈ z.cells.toList, c.oneCell' = true)
    {w : World} {b o n cap k : Nat} {xs : List Value} (h : Rw w e sz (.slice (some ⟨b, o, none⟩) n cap) n xs) (hk : k < n) :
    ∃ w1 w2, (Builtin.append_ #[t, t] t #[.slice (some ⟨b, o, none⟩) k cap, .slice (if cap = k + 1 then some ⟨b, o, none⟩ else (some (⟨b, o, none⟩ : Addr)).map (·.add ((k + 1) * sz))) (n - (k + 1)) (cap - (k + 1))]).run P w = .ok (.slice (some ⟨b, o, none⟩) (n - 1) cap) w1 ∧
      (∀ ty, (Builtin.clear_ #[t] ty #[.slice (some ⟨b, o + (n - 1) * sz, none⟩) 1 (cap - (n - 1))]).run P w1 = .ok (.tuple #[]) w2) ∧
      Rw w2 e sz (.slice (some ⟨b, o, none⟩) (n - 1) cap) (n - 1) (xs.take (k * sz) ++ xs.drop ((k + 1) * sz)) ∧ Mods (fun j => j = b) w w2 := by
  obtain ⟨hl, h1, ⟨h2, _⟩ | ⟨b', o', cap', cs, h2, hg, h3, h4, h5, h6⟩⟩ := h
  · simp at h2
  simp only [Value.slice.injEq, Option.some.injEq, Addr.mk.injEq] at h2
  obtain ⟨⟨rfl, rfl, _⟩, _, rfl⟩ := h2
  have e1 : (k + 1) * sz + (n - (k + 1)) * sz = n * sz := by rw [← Nat.add_mul]; congr 1; omega
  have e2 : k * sz + (n - (k + 1)) * sz = (n - 1) * sz := by rw [← Nat.add_mul]; congr 1; omega
  have e3 : (n - 1) * sz + sz = n * sz := by
    have : (n - 1 + 1) * sz = n * sz := by congr 1; omega
    rw [← this, Nat.add_mul, Nat.one_mul]
  have e4 : n * sz ≤ cap * sz := Nat.mul_le_mul_right _ h4
  have hnl : (xs.drop ((k + 1) * sz)).length = (n - (k + 1)) * sz := by rw [List.length_drop, hl]; omega
  obtain ⟨A, hA, hA2⟩ : ∃ A : Addr, (if cap = k + 1 then some (⟨b, o, none⟩ : Addr) else (some (⟨b, o, none⟩ : Addr)).map (·.add ((k + 1) * sz))) = some A ∧ ∀ j u, (xs.drop ((k + 1) * sz))[j]? = some u → w.cell? (A.add j) = some u := by
    by_cases hc : cap = k + 1
    · refine ⟨_, if_pos hc, fun j u hj => ?_⟩
      have := (List.getElem?_eq_some_iff.1 hj).1
      rw [hnl, show n - (k + 1) = 0 by omega] at this
      simp at this
    · refine ⟨⟨b, o + (k + 1) * sz, none⟩, by rw [if_neg hc, Option.map_some, addr_add], fun j u hj => ?_⟩
      rw [List.getElem?_drop] at hj
      rw [addr_add, cell_of_row _ _ _ _ _ _ hg, Nat.add_assoc]
      exact h6 _ u hj
  rw [hA]
  have hr := run_append_room_cells (P := P) w t t e i ht hi b o k cap A (n - (k + 1)) (cap - (k + 1)) _ (by rw [hnl, hsize]) hA2 (fun u hu => h1 u (List.mem_of_mem_drop hu)) (by omega)
    (fun j hj => by rw [hnl] at hj; rw [cell_of_row _ _ _ _ _ _ hg, hsize, Array.getElem?_eq_getElem (by omega)]; rfl) (fun j hj => by simp [World.frozen?, hg])
  obtain ⟨cs', a1, a2, a3, a4⟩ := heap_setCells b (xs.drop ((k + 1) * sz)) (o + k * i.size) w cs e (0, 0) hg
  rw [hsize] at hr a1 a3 a4
  rw [show k + (n - (k + 1)) = n - 1 by omega] at hr
  obtain ⟨w1, hw1⟩ : ∃ w1, w1 = w.setCells b (o + k * sz) (xs.drop ((k + 1) * sz)) := ⟨_, rfl⟩
  rw [← hw1] at hr a1
  have hR1 : Rw w1 e sz (.slice (some ⟨b, o, none⟩) (n - 1) cap) (n - 1) (xs.take (k * sz) ++ xs.drop ((k + 1) * sz)) := by
    have htl : (xs.take (k * sz)).length = k * sz := by rw [List.length_take, hl]; omega
    refine ⟨by rw [List.length_append, htl, hnl]; exact e2, fun u hu => ?_, .inr ⟨b, o, cap, cs', rfl, a1, by omega, by omega, h5, fun j u hj => ?_⟩⟩
    · rcases List.mem_append.1 hu with hu | hu
      · exact h1 u (List.mem_of_mem_take hu)
      · exact h1 u (List.mem_of_mem_drop hu)
    · by_cases hjx : j < k * sz
      · rw [List.getElem?_append_left (by omega), List.getElem?_take_of_lt hjx] at hj
        rw [a3 _ (by omega)]
        exact h6 j u hj
      · rw [List.getElem?_append_right (by omega), htl] at hj
        have hjl := (List.getElem?_eq_some_iff.1 hj).1
        rw [hnl] at hjl
        have := a4 (j - k * sz) u hj (by omega)
        rw [← this]
        congr 1
        omega
  have hcl := fun ty => run_clear (P := P) (sz := sz) ht z hv hz h1z b (o + (n - 1) * sz) 1 (cap - (n - 1)) ty (by omega) w1
    (fun j hj => by rw [cell_of_row _ _ _ _ _ _ a1, Array.getElem?_eq_getElem (by rw [a2]; omega)]; rfl) (fun j => by simp [World.frozen?, a1])
  refine ⟨w1, _, hr, hcl, hR1.sets rfl (.inr (Nat.le_refl _)), ?_⟩
  rw [hw1]
  exact (Mods.sets (S := fun j => j = b) b rfl _ _ _).trans (Mods.sets (S := fun j => j = b) b rfl _ _ _) (fun j hj => .inl hj)
theorem und29 : Try.prog.underlying 29 = some (.slice (Try.prog.elem 29)) := by kernel_rfl
theorem sz29 (W : World) : (sizeOf (Try.prog.elem 29)).run Try.prog W = .ok 1 W := by kernel_rfl
theorem zero3 (w : World) : (zeroValue 3).run Try.prog w = .ok (.int .i64 0) w := by kernel_rfl
set_option maxRecDepth 100000 in
set_option maxHeartbeats 400000 in
theorem delI {w : World} {v : Value} {n k : Nat} {xs : List Value} (h : Rw w 3 1 v n xs) (hk : k < n) (hn : n ≤ 65536) :
    Calls Try.prog 71 #[v, .int .i64 k, .int .i64 ((k : Int) + 1)] w (DelP 3 1 w v (n - 1) (xs.take (k * 1) ++ xs.drop ((k + 1) * 1))) := by
  obtain ⟨i, hi, hz0, hz1, hz2⟩ := info_parts info3
  obtain ⟨x, cap, rfl, hc1, hc2⟩ := h.form
  obtain ⟨b, o, rfl⟩ : ∃ b o, x = some ⟨b, o, none⟩ := by
    rcases h.2.2 with ⟨_, h2⟩ | ⟨b, o, _, _, h2, _⟩
    · omega
    · simp only [Value.slice.injEq] at h2; exact ⟨b, o, h2.1⟩
  have h' : Rw w.drew 3 1 (.slice (some ⟨b, o, none⟩) n cap) n xs := h
  obtain ⟨w1, w2, r1, r2, r3, r4⟩ := del_runs Try.underlying29 hi hz1 zero3 rfl (by simp [Value.cells, Value.oneCell']) h' hk
  have R3 := Lib.hid r3
  have R4 : Hid (Mods (fun j => j = b) w w2) := ⟨r4.os, r4.tape, r4.output, r4.size, r4.block⟩
  have s1 := fun W => run_head und29 sz29 b o n cap k (by omega) (by omega) k rfl W
  have s2 := fun W => run_tail und29 sz29 (some ⟨b, o, none⟩) n cap (k + 1) (by omega) ((k : Int) + 1) (by simp) W
  have s3 := fun W => run_mid und29 sz29 (some ⟨b, o, none⟩) (n - 1) cap (n - 1) n (by omega) (by omega) ((n - 1 : Nat) : Int) n rfl rfl W
  rw [if_neg (by omega), Option.map_some, addr_add, show n - (n - 1) = 1 by omega] at s3
  unfold maxLen at hc2
  obtain ⟨Y, hY⟩ : ∃ Y, Y = Value.slice (if cap = k + 1 then some ⟨b, o, none⟩ else (some (⟨b, o, none⟩ : Addr)).map (·.add ((k + 1) * 1))) (n - (k + 1)) (cap - (k + 1)) := ⟨_, rfl⟩
  obtain ⟨Z, hZ⟩ : ∃ Z, Z = Value.slice (some ⟨b, o + (n - 1) * 1, none⟩) 1 (cap - (n - 1)) := ⟨_, rfl⟩
  rw [← hY] at r1 s2
  rw [← hZ] at s3
  simp only [← hZ] at r2
  have R1 := Lib.hid r1
  clear h h' r1 r3 r4 hi hz0 hz1 hz2 hY hZ
  have hkc : (k : Int) + 1 ≤ cap := by omega
  have hkk : ¬ (k : Int) = (k : Int) + 1 := by omega
  go_enter Try.func71, Try.ntmps71
  go_wp2_with fail
  go_still_tail 6, (by kernel_rfl)
  change wpList _ _ _ _ _ w.drew
  clear s2
  go_wp2_with (refine wpList_appK 29 rfl (.tmp 22) (.tmp 25) rfl rfl rfl rfl R1.out ?_)
  go_ret
  exact ⟨_, rfl, R3.out, R4.out.mono (fun j hj => .inl (by simp [Value.ownBlock]; exact hj.symm)), rfl⟩
end Go.Proofs.Ytfdihgahegfamaa
