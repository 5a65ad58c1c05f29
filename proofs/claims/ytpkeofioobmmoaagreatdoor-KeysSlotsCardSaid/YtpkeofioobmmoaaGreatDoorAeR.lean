/-
  How arrays of bytes come in: an argument of type array of bytes is a row of bytes. No condition.
-/
import Derived.Test.YtpkeofioobmmoaaGreatDoorAeL
import Derived.Test.YtpkeofioobmmoaaGreatDoorAeAesAl
namespace Go.Proofs.YtpkeofioobmmoaaGreatDoor.ae
open Go.ChangeShapes Go.WideShapes Go.ChangeAt Go.RowKit
set_option maxRecDepth 100000 in
theorem cellsOf5 : Tryz.prog.cellsOf 5 = 1 := by kernel_rfl
set_option maxRecDepth 100000 in
theorem open_arr {H : Type} {enc : TypeId × Value → H} {w : World} {r : Reach} {b0 base : Nat} {t : TypeId} {n : Nat} {v : Value} {d : DataW H} {ps : List MemPlace} (ht : Tryz.prog.underlying t = some (.array n 5)) (hn : Tryz.prog.cellsOf t = n)
    (hval : Value.okWide Tryz.prog w r b0 t v) (hd : DataW.Trod enc Tryz.prog w base (fun _ => true) true t v d ps) : ∃ l : List Nat, Bts n l ∧ v = .agg (ncells l) := by
  unfold Value.okWide at hval
  simp only [ht] at hval
  obtain ⟨cs, rfl, hsz, _⟩ := hval
  rw [hn] at hsz
  obtain ⟨fuel, hf⟩ := hd
  obtain ⟨xs, m, _, _, _, hl, hel⟩ := DataW.trod_array ht hf
  rw [cellsOf5] at hel
  have hc : ∀ i, i < n → ∃ z : Nat, z < 256 ∧ cs[i]? = some (.int .u8 (z : Int)) := fun i hi => by
    have h := hel i hi
    have hx : xs[i]? = some xs[i] := List.getElem?_eq_getElem (by omega)
    rw [hx] at h
    obtain ⟨z, hz, _, hw⟩ := DataW.trod_int Tryz.underlying5 h
    have hb := bounds_u8 hw
    obtain ⟨k, rfl⟩ := Int.eq_ofNat_of_zero_le hb.1
    refine ⟨k, by omega, ?_⟩
    have e : (cs.toList.drop (i * 1)).take 1 = [cs[i]'(by omega)] := by
      rw [Nat.mul_one, List.drop_eq_getElem_cons (by simp; omega)]; simp
    have e2 : (Value.agg cs).cells.toList = cs.toList := rfl
    rw [e2, e] at hz
    simp only [List.cons.injEq, and_true] at hz
    rw [Array.getElem?_eq_getElem (by omega), hz]
  have hex : ∃ f : Nat → Nat, ∀ i, i < n → f i < 256 ∧ cs[i]? = some (.int .u8 (f i : Int)) := by
    refine ⟨fun i => if h : i < n then (hc i h).choose else 0, fun i hi => ?_⟩
    simp only [dif_pos hi]
    exact (hc i hi).choose_spec
  obtain ⟨f, hf2⟩ := hex
  refine ⟨tab n f, tab_bts fun i hi => (hf2 i hi).1, ?_⟩
  congr 1
  apply Array.ext
  · rw [hsz, nsize, tab_len]
  · intro i h1 h2
    have := (hf2 i (by omega)).2
    rw [Array.getElem?_eq_getElem h1, Option.some.injEq] at this
    rw [this]
    simp [ncells, tab]
end Go.Proofs.YtpkeofioobmmoaaGreatDoor.ae
