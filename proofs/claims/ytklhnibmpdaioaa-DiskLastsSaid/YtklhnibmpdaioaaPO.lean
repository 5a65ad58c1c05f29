/-
  For every slice of ops and every text the law DiskLasts of package casematelaw11 returns true, and the arguments read afterwards as before: behind a crash a sector has what was flushed last, or a write of it behind that which waited; the register what was set last. Condition: none.
-/
import Derived.Test.YtklhnibmpdaioaaPN
namespace Go.Proofs.Ytklhnibmpdaioaa.pv.diskLasts
open Go.ChangeShapes Go.WideShapes Go.ChangeAt Go.RowKit
set_option maxRecDepth 100000 in
theorem open_kb {H : Type} {enc : TypeId × Value → H} {w : World} {r : Reach} {b0 base : Nat} {v : Value} {d : DataW H} {ps : List MemPlace}
    (hval : Value.okWide Try.prog w r b0 32 v) (hd : DataW.Trod enc Try.prog w base (fun _ => true) true 32 v d ps) : ∃ (x : Option Addr) (l c : Nat), v = .slice x l c ∧ KB w x l := by
  obtain ⟨fuel, hf⟩ := hd
  obtain ⟨x', l', k', rfl⟩ := okWide_slice Try.underlying32 hval
  refine ⟨x', l', k', rfl, ?_⟩
  rcases Go.Deep.open_slice Try.underlying32 hf with ⟨hc, _⟩ | ⟨a, len, cap, m, n, D, Pl, hc, _, hl, hm, hmm, hx, hi⟩
  · simp [Value.cells] at hc
    obtain ⟨rfl, rfl, rfl⟩ := hc
    exact ⟨Nat.zero_le _, fun _ => 0, fun i h => by omega⟩
  · simp [Value.cells] at hc
    obtain ⟨rfl, rfl, rfl⟩ := hc
    rw [if_pos rfl] at hmm
    have each : ∀ i, i < l' → ∃ (z b o : Nat), z < 256 ∧ a = ⟨b, o, none⟩ ∧ b < w.heap.size ∧ w.cell? ⟨b, o + i, none⟩ = some (.int .u8 z) := fun i hil => by
      obtain ⟨cs', h1, h2⟩ := hi i (by omega)
      rw [cells5', Nat.mul_one] at h1
      obtain ⟨_, hcl, hat⟩ := World.cells?_some h1
      obtain ⟨z0, e0, _, w0⟩ := DataW.trod_int Try.underlying5 h2
      have b0 := bounds_u8 w0
      obtain ⟨z, rfl⟩ : ∃ z : Nat, z0 = z := ⟨z0.toNat, by omega⟩
      have h6 := hat 0 (by omega)
      rw [e0] at h6
      obtain ⟨b, o, spot⟩ := a
      have h7 : w.cell? ((⟨b, o, spot⟩ : Addr).add i) = some (.int .u8 z) := by
        rw [Go.Deep.add_add, Nat.add_zero] at h6
        exact h6
      obtain ⟨cs0, p1, p2⟩ := hi 0 (by omega)
      rw [cells5', Nat.mul_one] at p1
      obtain ⟨_, _, hat0⟩ := World.cells?_some p1
      obtain ⟨y0, e1, _, _⟩ := DataW.trod_int Try.underlying5 p2
      have q0 := hat0 0 (by omega)
      rw [e1] at q0
      have hspot : spot = none := by simpa [Addr.add] using World.cell?_spot q0
      subst hspot
      rw [addr_add] at h7
      exact ⟨z, b, o, by omega, rfl, World.block_lt_of_cell? w _ h7, h7⟩
    refine ⟨by omega, fun j => if h : j < l' then Classical.choose (each j h) else 0, fun j hj => ?_⟩
    simp only [dif_pos hj]
    obtain ⟨b, o, h1, h2, h3, h4⟩ := Classical.choose_spec (each j hj)
    exact ⟨h1, b, o, by rw [h2], h3, h4⟩
set_option maxRecDepth 100000 in
theorem open_os2 {H : Type} {enc : TypeId × Value → H} {w : World} {r : Reach} {b0 base : Nat} {v : Value} {d : DataW H} {ps : List MemPlace}
    (hval : Value.okWide Try.prog w r b0 22 v) (hd : DataW.Trod enc Try.prog w base (fun _ => true) true 22 v d ps) : ∃ (x : Option Addr) (l c : Nat), v = .slice x l c ∧ OS2 w x l := by
  obtain ⟨fuel, hf⟩ := hd
  obtain ⟨x', l', k', rfl⟩ := okWide_slice Try.underlying22 hval
  refine ⟨x', l', k', rfl, ?_⟩
  rcases Go.Deep.open_slice Try.underlying22 hf with ⟨hc, _⟩ | ⟨a, len, cap, m, n, D, Pl, hc, _, hl, hm, hmm, hx, hi⟩
  · simp [Value.cells] at hc
    obtain ⟨rfl, rfl, rfl⟩ := hc
    exact ⟨Nat.zero_le _, fun i h => by omega⟩
  · simp [Value.cells] at hc
    obtain ⟨rfl, rfl, rfl⟩ := hc
    rw [if_pos rfl] at hmm
    refine ⟨by omega, fun i hil => ?_⟩
    obtain ⟨cs', h1, h2⟩ := hi i (by omega)
    rw [cells34] at h1
    obtain ⟨k, s, y, n', x, l, c, rfl, hs, hy, hn', _⟩ := op_cells h2
    obtain ⟨_, hcl, hat⟩ := World.cells?_some h1
    have g : ∀ (j : Nat) (u : Value), j < 5 → ([.int .i64 k, .int .u32 s, .int .u8 y, .int .i64 n', .slice x l c] : List Value)[j]? = some u → w.cell? (a.add (i * 5 + j)) = some u := fun j u hj hu => by
      have h6 := hat j hj
      rw [hu] at h6
      rw [← Go.Deep.add_add, h6]
    have g0 := g 0 _ (by omega) rfl
    have g1 := g 1 _ (by omega) rfl
    have g2 := g 2 _ (by omega) rfl
    have g3 := g 3 _ (by omega) rfl
    have g4 := g 4 _ (by omega) rfl
    obtain ⟨cs0, p1, p2⟩ := hi 0 (by omega)
    rw [cells34] at p1
    obtain ⟨_, _, _, _, _, _, _, rfl, _, _, _, _⟩ := op_cells p2
    obtain ⟨_, _, hat0⟩ := World.cells?_some p1
    have q0 := hat0 0 (by omega)
    rw [Go.Deep.add_add] at q0
    obtain ⟨b, o, spot⟩ := a
    have hspot : spot = none := by simpa [Addr.add] using World.cell?_spot q0
    subst hspot
    rw [addr_add, ← Nat.add_assoc] at g0 g1 g2 g3 g4
    exact ⟨k, s, y, n', x, l, c, b, o, rfl, World.block_lt_of_cell? w _ g0, hs, hy, hn', g0, g1, g2, g3, g4⟩
set_option maxRecDepth 100000 in
theorem lifted (os : Os) (started : os.Started) (H : Type) (enc : TypeId × Value → H) :
    ReturnsInHanded {} Try.checked os 5 .any (Rows.diskLastsSpec.pre6 enc Try.prog Try.f5 Rows.diskLastsRow.domain false) (Rows.diskLastsSpec.post enc Try.prog Try.f5 false true false false) := by
  refine returnsInHanded_of_change (C := Try.checked) own started (by kernel_rfl) Try.func5
    (ChangeSpec.witness6 (enc := enc) (C := Try.checked) false ⟨#[], #[.slice none 0 0, .slice none 0 0], []⟩ 8 (by kernel_rfl) (by kernel_rfl) (by kernel_rfl) (by kernel_rfl)) ?_
  intro W base args ds gs before hval0 hW hcnd _
  have hval : ∀ (j : Nat) t v, Try.f5.params[j]? = some t → args[j]? = some v → Value.okWide Try.prog W .any base t v := hval0
  have hW' := hW
  obtain ⟨p, q, hA0, hV, rfl, hfz, hnd⟩ := hW
  have hA : DataW.TrodAll enc Try.prog W 0 (fun _ => true) true Try.f5.params.toList args.toList ds p := hA0
  rw [Try.params5] at hA hval
  obtain ⟨v0, vs0, d0, ds0, p0, q0, hargs, rfl, rfl, h0, r0⟩ := trodAll_cons hA
  obtain ⟨v1, vs1, d1, ds1, p1, q1, rfl, rfl, rfl, h1, r1⟩ := trodAll_cons r0
  obtain ⟨rfl, rfl, rfl⟩ := trodAll_nil r1
  obtain rfl : args = #[v0, v1] := by cases args; simp_all
  obtain ⟨rfl, rfl⟩ := trodVars_none hV
  obtain ⟨x0, l0, c0, rfl, s0⟩ := open_os2 (hval 0 22 v0 rfl rfl) h0
  obtain ⟨x1, l1, c1, rfl, s1⟩ := open_kb (hval 1 32 v1 rfl rfl) h1
  refine (walk x0 l0 c0 x1 l1 c1 W s0 s1).mono fun e W' ⟨he, hb⟩ => ?_
  subst he
  exact ⟨_, rfl, law_post hW' rfl rfl rfl (by kernel_rfl) hb⟩

/-- The statement. -/
theorem proved : Rows.DiskLastsSaid :=
  OpenClaim.holds_of_wide 5 Try.f5 rfl rfl rfl rfl rfl rfl rfl ⟨rfl, rfl, rfl, rfl, rfl⟩ rfl rfl rfl rfl rfl (by kernel_rfl) Try.func5 (by kernel_rfl)
    (of_decide_eq_true (by kernel_rfl)) (by unfold Func.isWrapper; first | (rw [if_pos (by decide +kernel)]; kernel_rfl) | (rw [if_neg (by decide +kernel)]; exact ⟨rfl, rfl⟩))
    (fun os started H enc _ => lifted os started H enc)
#print axioms proved
end Go.Proofs.Ytklhnibmpdaioaa.pv.diskLasts
