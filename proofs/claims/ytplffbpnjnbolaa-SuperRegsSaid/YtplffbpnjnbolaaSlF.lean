/-
  Contracts of the functions that the statements of package slot go through: what must come of fixed calls. No condition.
-/
import Derived.Test.YtplffbpnjnbolaaSlE
namespace Go.Proofs.Ytplffbpnjnbolaa
open Go.RowKit
theorem sR_sW (xs : List Int) (hl : xs.length = 104) : sR (sW xs) = xs := by
  show (xs ++ zs 400).take 104 = xs
  exact List.take_left' hl
theorem sRe_sW (xs : List Int) (hl : xs.length = 104) : sRe (sW xs) = 0 := by
  unfold sRe
  rw [if_pos ⟨sW_len xs hl, by rw [sR_sW xs hl]⟩]
theorem sRv_sW (xs : List Int) (hl : xs.length = 104) : sRv (sW xs) = xs := by
  unfold sRv
  rw [if_pos (sRe_sW xs hl), sR_sW xs hl]
theorem sRe_zs : sRe (zs 512) = 3 := by
  unfold sRe
  rw [if_neg (fun h => by
    have h2 : (75 : Int) = 0 := congrArg (fun l => List.getD l 0 7) h.2
    exact absurd h2 (by decide))]
theorem sRv_zs : sRv (zs 512) = zs 104 := by
  unfold sRv
  rw [if_neg (by rw [sRe_zs]; decide)]
/-- The slot whose check begins with 9. -/
def nine : List Int := zs 32 ++ (9 :: zs 31) ++ zs 40
theorem nine_len : nine.length = 104 := by simp [nine, zs_len]
theorem nine_byt : Byt nine := ((zs_byt _).append ((byt_of [9] rfl).append (zs_byt 31))).append (zs_byt _)
set_option maxRecDepth 100000 in
theorem bld24 (w : World) : (Instr.build 24 #[(0, .int .u8 9)]).run Try.prog w = .ok (.agg (bcells (9 :: zs 31))) w := by kernel_rfl
set_option maxRecDepth 100000 in
theorem bld61 (w : World) : (Instr.build 61 #[(1, .agg (bcells (9 :: zs 31)))]).run Try.prog w = .ok (.agg (bcells nine)) w := by kernel_rfl
theorem Sees.cell {w : World} {g o n c : Nat} {xs : List Int} (h : Sees w (.slice (some ⟨g, o, none⟩) n c) xs) (i : Nat) (hi : i < xs.length) : w.cell? ⟨g, o + i, none⟩ = some (.int .u8 (nth xs i)) := by
  obtain ⟨_, ⟨h1, _⟩ | ⟨a, c', h1, h2, _⟩ | ⟨b, o', c', h1, _, _, _, h2⟩⟩ := h
  · simp at h1
  · subst h2; simp at hi
  · simp only [Value.slice.injEq, Option.some.injEq, Addr.mk.injEq] at h1
    obtain ⟨⟨rfl, rfl, _⟩, _, rfl⟩ := h1
    exact h2 i hi
/-- A struct or an array that is built of known parts, in a plain region. -/
theorem wpList_build_run {ops : Array Oper} {rest : List Oper} {o : Oper} {a : Act} {w : World} {Q : Exit → Act → World → Prop} (hgd : o.guard = none) (t : TypeId) (i : Nat) (x : Operand)
    (ho : o.op = .build t #[(i, x)]) {u v : Value} (hx : a.eval x = u)
    (hr : (Instr.build t #[(i, u)]).run Try.prog w = .ok v w) (h : wpList Try.prog ops Q rest (a.put o.dst v) w) : wpList Try.prog ops Q (o :: rest) a w := by
  refine wpList_plain hgd fun K hK => ?_
  unfold Oper.wp execOp
  simp only [ho, Sem.run_bind, Sem.run_pure, Result.andThen_ok, List.map_toArray, List.map_cons, List.map_nil, hx, hr]
  exact hK _ _ h
/-- The same where a guard is met. -/
theorem wpList_wanted {ops : Array Oper} {rest : List Oper} {o : Oper} {a : Act} {w : World} {Q : Exit → Act → World → Prop} (hw : Region.wanted o (yielded ops a.tmps) = true)
    (h : ∀ K : Act → World → Prop, (∀ a w, wpList Try.prog ops Q rest a w → K a w) → o.wp Try.prog a w K Q) : wpList Try.prog ops Q (o :: rest) a w :=
  wpList_step fun K hK => by rw [if_pos hw]; exact h K hK
theorem wpList_load_met {ops : Array Oper} {rest : List Oper} {o : Oper} {a : Act} {w : World} {Q : Exit → Act → World → Prop} (hw : Region.wanted o (yielded ops a.tmps) = true) (ty : TypeId) (x : Operand) (ho : o.op = .load ty x)
    (g : Nat) (hx : a.eval x = .pointer (some ⟨g, 0, none⟩)) (t : TypeId) (cs : Array Value) (fr : Nat × Nat) (d : TypeDesc) (hg : w.heap[g]? = some (.cells cs t fr))
    (hu : Try.prog.underlying ty = some d) (hd : ∃ fs, d = .struct fs) (hi : (Try.prog.info? ty).map (·.size) = some cs.size)
    (h : wpList Try.prog ops Q rest (a.put o.dst (.agg cs)) w) : wpList Try.prog ops Q (o :: rest) a w := by
  obtain ⟨fs, rfl⟩ := hd
  exact wpList_wanted hw fun _ hK => wp_load_row ty x ho g hx t cs fr _ hg hu rfl hi (hK _ _ h)
theorem wpList_build_met {ops : Array Oper} {rest : List Oper} {o : Oper} {a : Act} {w : World} {Q : Exit → Act → World → Prop} (hw : Region.wanted o (yielded ops a.tmps) = true) (t : TypeId) (i : Nat) (x : Operand)
    (ho : o.op = .build t #[(i, x)]) {u v : Value} (hx : a.eval x = u)
    (hr : (Instr.build t #[(i, u)]).run Try.prog w = .ok v w) (h : wpList Try.prog ops Q rest (a.put o.dst v) w) : wpList Try.prog ops Q (o :: rest) a w := by
  refine wpList_wanted hw fun K hK => ?_
  unfold Oper.wp execOp
  simp only [ho, Sem.run_bind, Sem.run_pure, Result.andThen_ok, List.map_toArray, List.map_cons, List.map_nil, hx, hr]
  exact hK _ _ h
set_option maxRecDepth 100000 in
set_option maxHeartbeats 4000000 in
theorem alive20 (w : World) : Calls Try.prog 23 #[] w fun e w' => e = .returned (.bool true) ∧ Below w.heap.size w w' := by
  have hz := z104
  have B24 := Lib.hid bld24
  have B61 := Lib.hid bld61
  have WN : Hid (∀ W, Calls Try.prog 26 #[.agg (bcells nine)] W (NewP W 512 (sW nine))) := fun W => slotW nine nine_byt nine_len W
  have RZ : Hid (∀ v W, Sees W v (zs 512) → Calls Try.prog 24 #[v] W fun e w' => e = .returned (.tuple #[.agg (bcells (zs 104)), .int .i64 3]) ∧ Below W.heap.size W w') := fun v W h => by
    have := slotR v _ W h; unfold ReadSP at this; rw [sRe_zs, sRv_zs] at this; exact this
  have RN : Hid (∀ v W, Sees W v (sW nine) → Calls Try.prog 24 #[v] W fun e w' => e = .returned (.tuple #[.agg (bcells nine), .int .i64 0]) ∧ Below W.heap.size W w') := fun v W h => by
    have := slotR v _ W h; unfold ReadSP at this; rw [sRe_sW _ nine_len, sRv_sW _ nine_len] at this; exact this
  have IZ := Lib.hid (i61 (zs_len 104))
  have IN := Lib.hid (i61 nine_len)
  have OZ := Lib.hid (one_cells (zs 104))
  have ON := Lib.hid (one_cells nine)
  have EQ := Lib.hid (fun W => (eq61 nine nine nine_byt nine_byt nine_len nine_len W).trans (by rw [decide_eq_true rfl]))
  have ZN := Lib.hid (bcells_sz (show (zs 104).length = nine.length by rw [zs_len, nine_len]))
  have BL := Lib.hid blank
  have N0 : Hid (nth (sW nine) 0 = 75 ∧ nth (sW nine) 40 = 9) := ⟨rfl, by simp [nth, sW, nine, zs, List.getD]⟩
  have NL := Lib.hid (sW_len nine nine_len)
  generalize bcells (9 :: zs 31) = C9 at *
  generalize bcells nine = CN at *
  generalize bcells (zs 104) = Z at *
  generalize sW nine = S at *
  generalize zs 512 = Z5 at *
  go_enter Try.func23, Try.ntmps23
  go_wp2_with fail
  refine (place 1 0 _).mono ?_
  rintro e w0 ⟨rfl, rfl⟩
  go_wp2_with fail
  refine (BL.out _).mono ?_
  rintro e w1 ⟨g1, rfl, s1, b1, _⟩
  have B1 := Lib.hid b1
  have S1 := Lib.hid s1
  clear s1 b1
  go_wp2_with fail
  refine (RZ.out _ _ S1.out).mono ?_
  rintro e w2 ⟨rfl, b2⟩
  have B2 := Lib.hid (B1.out.trans (b2.mono B1.out.size))
  clear b2 S1 B1 w1
  have A2 := Lib.hid (heap_alloc_new w2 (.cells Z 61))
  have R2 := Lib.hid (alloc_setRowT w2 Z Z 61 _ rfl)
  go_wp2_with (first
    | refine wpList_store_row rfl 61 (.tmp 3) (.tmp 15) rfl w2.heap.size Z rfl rfl 61 Z A2.out IZ.out rfl OZ.out ?_; rw [R2.out]
    | (refine wpList_build_run rfl 24 0 (.const (.int .u8 9)) rfl rfl (B24.out _) ?_)
    | (refine wpList_build_run (u := .agg C9) rfl 61 1 (.tmp 17) rfl rfl (B61.out _) ?_))
  refine (WN.out _).mono ?_
  rintro e w3 ⟨g3, rfl, s3, b3, _⟩
  have B3 : Hid (Below w.heap.size w w3) := (B2.out.alloc B2.out.size _).trans (b3.mono (by have := B2.out.size; simp; omega))
  have S3 := Lib.hid s3
  clear s3 b3 B2 A2 R2
  go_wp2_with fail
  refine (RN.out _ _ S3.out).mono ?_
  rintro e w4 ⟨rfl, b4⟩
  have B4 := Lib.hid (B3.out.trans (b4.mono B3.out.size))
  have S4 := Lib.hid (S3.out.below b4)
  have A4 := Lib.hid (heap_alloc_new w4 (.cells Z 61))
  have R4 := Lib.hid (alloc_setRowT w4 Z CN 61 _ rfl)
  have G4 := Lib.hid (heap_alloc_new w4 (.cells CN 61))
  have BB := Lib.hid (B4.out.alloc B4.out.size (.cells CN 61))
  have S5 := Lib.hid (S4.out.below ((Below.refl _ _).alloc (Nat.le_refl _) (.cells CN 61)))
  have l0 := S5.out.cell 0 (by rw [NL.out]; decide)
  have l40 := S5.out.cell 40 (by rw [NL.out]; decide)
  rw [N0.out.1] at l0
  rw [N0.out.2] at l40
  simp only [Nat.zero_add] at l0 l40
  have eq := EQ.out
  clear S3 b4 B3
  go_wp2_with (first
    | (refine wpList_store_row rfl 61 (.tmp 6) (.tmp 23) rfl w4.heap.size CN rfl rfl 61 Z A4.out IN.out ZN.out ON.out ?_; rw [R4.out])
    | (refine wpList_load_met rfl 61 (.tmp 6) rfl w4.heap.size rfl 61 CN (0, 0) _ G4.out Try.underlying61 ⟨_, rfl⟩ IN.out ?_)
    | (refine wpList_build_met (u := .int .u8 9) rfl 24 0 (.const (.int .u8 9)) rfl rfl (B24.out _) ?_)
    | (refine wpList_build_met (u := .agg C9) rfl 61 1 (.tmp 58) rfl rfl (B61.out _) ?_))
  go_ret
  exact ⟨rfl, BB.out⟩
end Go.Proofs.Ytplffbpnjnbolaa
