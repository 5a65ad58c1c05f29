/-
  Contracts of the functions that the statements of package slot go through: places; blank bytes; the document's bytes of a slot. Condition: the slice reads as bytes.
-/
import Derived.Test.YtplffbpnjnbolaaSlC
import Derived.Test.YtplffbpnjnbolaaH
import Derived.Deep.MidRow
import Derived.Stop.BytesEq
namespace Go.Proofs.Ytplffbpnjnbolaa
open Go.RowKit
theorem yieldsIf_load_at {P : Program} {ops : Array Oper} {S : World → Prop} {op : Oper} {a : Act} (hw : Region.wanted op (yielded ops a.tmps) = true) (ty : TypeId) (x : Operand) (ho : op.op = .load ty x)
    (b o : Nat) (hx : a.eval x = .pointer (some ⟨b, o, none⟩)) (cs : Array Value) (d : TypeDesc) (hS : ∀ w, S w → w.rangeAt b o cs.toList)
    (hu : P.underlying ty = some d) (hd : d.isRow = true) (hi : (P.info? ty).map (·.size) = some cs.size) : YieldsIf P ops S op (.agg cs) a :=
  yieldsIf_load_mid hw ty x ho b o hx cs.toList d hS hu hd (by rw [Array.length_toList]; exact hi)
theorem range_row {W : World} {g : Nat} {c : Array Value} {t : TypeId} {fr : Nat × Nat} (h : W.heap[g]? = some (.cells c t fr)) : W.rangeAt g 0 c.toList := fun j v hv => by
  rw [Nat.zero_add, cell_of_row _ _ _ _ _ _ h, ← hv]; simp
/-- The place of a tenant's copy; the error. -/
def plE (t k : Int) : Int := if t < 1 ∨ 8 < t ∨ k < 0 ∨ 2 ≤ k then 1 else 0
def plV (t k : Int) : Int := if t < 1 ∨ 8 < t ∨ k < 0 ∨ 2 ≤ k then 0 else 2 * t + k
def PlaceP (w : World) (t k : Int) (e : Ending) (w' : World) : Prop := e = .returned (.tuple #[.int .u32 (plV t k), .int .i64 (plE t k)]) ∧ w = w'
theorem placeP_no {w : World} {t k : Int} (h : t < 1 ∨ 8 < t ∨ k < 0 ∨ 2 ≤ k) : PlaceP w t k (.returned (.tuple #[.int .u32 0, .int .i64 1])) w := by
  unfold PlaceP plE plV; rw [if_pos h, if_pos h]; exact ⟨rfl, rfl⟩
theorem placeP_yes {w : World} {t k : Int} (h : ¬ (t < 1 ∨ 8 < t ∨ k < 0 ∨ 2 ≤ k)) : PlaceP w t k (.returned (.tuple #[.int .u32 (2 * t + k), .int .i64 0])) w := by
  unfold PlaceP plE plV; rw [if_neg h, if_neg h]; exact ⟨rfl, rfl⟩
set_option maxRecDepth 100000 in
theorem place (t k : Int) (w : World) : Calls Try.prog 30 #[.int .i64 t, .int .i64 k] w (PlaceP w t k) := by
  by_cases h1 : t < 1
  · go_enter Try.func30, Try.ntmps30
    go_wp2_with fail
    go_ret2
    exact placeP_no (.inl h1)
  · by_cases h2 : 8 < t
    · go_enter Try.func30, Try.ntmps30
      go_wp2_with fail
      go_ret2
      exact placeP_no (.inr (.inl h2))
    · by_cases h3 : k < 0
      · go_enter Try.func30, Try.ntmps30
        go_wp2_with fail
        go_ret2
        exact placeP_no (.inr (.inr (.inl h3)))
      · by_cases h4 : 2 ≤ k
        · go_enter Try.func30, Try.ntmps30
          go_wp2_with fail
          go_ret2
          exact placeP_no (.inr (.inr (.inr h4)))
        · go_enter Try.func30, Try.ntmps30
          go_wp2_with fail
          go_ret2
          exact placeP_yes (by omega)
set_option maxRecDepth 100000 in
theorem refPlace (t k : Int) (w : World) : Calls Try.prog 31 #[.int .i64 t, .int .i64 k] w (PlaceP w t k) := by
  by_cases h1 : t < 1
  · go_enter Try.func31, Try.ntmps31
    go_wp2_with fail
    go_ret2
    exact placeP_no (.inl h1)
  · by_cases h2 : 8 < t
    · go_enter Try.func31, Try.ntmps31
      go_wp2_with fail
      go_ret2
      exact placeP_no (.inr (.inl h2))
    · by_cases h3 : k = 0
      · subst h3
        have e : PlaceP w t 0 (.returned (.tuple #[.int .u32 (t + t), .int .i64 0])) w := by
          have := placeP_yes (w := w) (t := t) (k := 0) (by omega)
          rw [show 2 * t + 0 = t + t by omega] at this; exact this
        go_enter Try.func31, Try.ntmps31
        go_wp2_with fail
        go_ret2
        exact e
      · by_cases h4 : k = 1
        · subst h4
          have e : PlaceP w t 1 (.returned (.tuple #[.int .u32 (t + t + 1), .int .i64 0])) w := by
            have := placeP_yes (w := w) (t := t) (k := 1) (by omega)
            rw [show 2 * t + 1 = t + t + 1 by omega] at this; exact this
          go_enter Try.func31, Try.ntmps31
          go_wp2_with fail
          go_ret2
          exact e
        · have h5 : k < 0 ∨ 2 ≤ k := by omega
          have k0 : (k != 0) = true := by simpa using h3
          have k1 : (k != 1) = true := by simpa using h4
          go_enter Try.func31, Try.ntmps31
          go_wp2_with fail
          go_ret2
          exact placeP_no (.inr (.inr h5))
/-- Blank: a new row of noughts. -/
theorem blank (w : World) : Calls Try.prog 29 #[] w (NewP w 512 (zs 512)) := by
  have hm := mkN 512 (by decide) w
  have S : Hid (Sees (w.alloc (.cells (bcells (zs 512)) 5)) (.slice (some ⟨w.heap.size, 0, none⟩) 512 512) (zs 512)) := sees_new w _ _ rfl (zs_byt _) (by rw [zs_len]; decide) _ rfl _ (zs_len _).symm
  have B : Hid (Below w.heap.size w (w.alloc (.cells (bcells (zs 512)) 5))) := (Below.refl _ _).alloc (Nat.le_refl _) _
  change (Instr.makeSlice 30 (.int .i64 512) (.int .i64 512)).run Try.prog w = .ok (.slice (some ⟨w.heap.size, 0, none⟩) 512 512) (w.alloc (.cells (bcells (zs 512)) 5)) at hm
  generalize w.alloc (.cells (bcells (zs 512)) 5) = w1 at *
  generalize zs 512 = Z at *
  go_enter Try.func29, Try.ntmps29
  go_wp2_with fail
  go_ret
  exact ⟨_, rfl, S.out, B.out, Nat.le_refl _⟩
theorem own_row (w : World) (base : Nat) (xs : List Int) (hb : Byt xs) (hm : xs.length ≤ maxLen) (hs : base ≤ w.heap.size) (n : Nat) (hn : n = xs.length) : Own (w.alloc (.cells (bcells xs) 5)) base (.slice (some ⟨w.heap.size, 0, none⟩) n n) xs := by
  subst hn
  exact ⟨hb, by simp, .inr ⟨w.heap.size, xs.length, bcells xs, rfl, hs, heap_alloc_new w _, Nat.le_refl _, hm, by simp [bcells], by rw [Nat.mul_one, bcells_toList, List.take_of_length_le (by simp)]⟩⟩
set_option maxRecDepth 100000 in
set_option maxHeartbeats 4000000 in
/-- The document's bytes of a slot. -/
theorem refW (v : Value) (xs : List Int) (hl : xs.length = 104) (w : World) (h : Sees w v xs) : Calls Try.prog 27 #[v] w (OwnP w (sW xs)) := by
  obtain ⟨x, cap, rfl, h63⟩ := h.form
  have hb0 : Below w.heap.size w (w.alloc (.cells (bcells [75, 0, 0, 0, 0, 0, 0, 0]) 5)) := (Below.refl _ _).alloc (Nat.le_refl _) _
  obtain ⟨x1, cap1, w1, hr, ho, hg, hb⟩ := app (own_row w w.heap.size [75, 0, 0, 0, 0, 0, 0, 0] (byt_of _ rfl) (by decide) (Nat.le_refl _) 8 rfl) (h.below hb0) (by rw [hl]; decide) hb0.size
  rw [hl] at hr ho ⊢
  have HR := Lib.hid hr
  have HO : Hid (Own w1 w.heap.size (.slice x1 112 cap1) ([75, 0, 0, 0, 0, 0, 0, 0] ++ xs)) := ho
  have HB := Lib.hid (hb0.trans hb)
  have HSW : Hid (sW xs = ([75, 0, 0, 0, 0, 0, 0, 0] ++ xs) ++ zs 400) := rfl
  have hpl : ([75, 0, 0, 0, 0, 0, 0, 0] ++ xs).length = 112 := by simp [hl]
  generalize ([75, 0, 0, 0, 0, 0, 0, 0] ++ xs) = P at *
  generalize sW xs = S at *
  have hm1 : (Instr.makeSlice 30 (.int .i64 1) (.int .i64 1)).run Try.prog w = (Instr.makeSlice 30 (.int .i64 1) (.int .i64 1)).run Try.prog w := rfl
  clear hr ho hg hb h hl hm1 hb0
  go_enter Try.func27, Try.ntmps27
  go_wp2_with (at_builtin; refine wpList_app rfl _ _ rfl rfl rfl rfl HR.out ?_)
  go_loopw [3] (fun v wr => ∃ (k : Nat) (x : Option Addr) (cap : Nat), k ≤ 400 ∧ v = .slice x (112 + k) cap ∧ Own wr w.heap.size v (P ++ zs k) ∧ Below w.heap.size w wr)
    (fun v _ => match v with | .slice _ n _ => 512 - n | _ => 0)
  case atStart => exact ⟨0, _, _, by omega, rfl, by simpa [zs] using HO.out, HB.out⟩
  case round =>
    obtain ⟨k, x, cap, hk, rfl, ho, hb⟩ := hrel
    by_cases hlt : k < 400
    · have hlt' : (112 : Int) + k < 512 := by omega
      have hz := sees_new wr #[.int .u8 0] [0] rfl (byt_of _ rfl) (by decide) _ rfl 1 rfl
      obtain ⟨x2, cap2, w2, hr, ho2, _, hb2⟩ := app (ho.below ((Below.refl _ _).alloc (Nat.le_refl _) _)) hz (by simp [hpl, zs_len]; omega) (by have := hb.size; simp; omega)
      simp only [List.length_append, hpl, zs_len, List.append_assoc, show [(0 : Int)] = zs 1 from rfl, zs_add] at hr ho2
      have HR := Lib.hid hr
      have HO2 := Lib.hid ho2
      have HB2 := Lib.hid ((hb.alloc hb.size _).trans hb2)
      clear hr ho2 hb2 hz ho hb
      go_wp2_with (at_builtin; refine wpList_app rfl _ _ rfl rfl rfl rfl HR.out ?_)
      go_roundw
      case rel => exact ⟨k + 1, x2, cap2, by omega, rfl, HO2.out, HB2.out⟩
      case measure => simp; omega
    · have hk2 : k = 400 := by omega
      subst hk2
      have HO2 := Lib.hid ho
      have HB2 := Lib.hid hb
      clear ho hb
      go_wp2
      go_ret
      have hsl : S.length = 512 := by rw [HSW.out]; simp [hpl, zs_len]
      exact ⟨x, cap, by rw [hsl]; rfl, by rw [HSW.out, show (P ++ zs 400).length = 512 by simp [hpl, zs_len]]; exact HO2.out, HB2.out⟩
end Go.Proofs.Ytplffbpnjnbolaa
