/-
  How slices of bytes come in: an argument of type slice of bytes reads as bytes. No condition.
-/
import Derived.Test.YtpkeofioobmmoaaDoorAeXtsG
namespace Go.Proofs.YtpkeofioobmmoaaDoor.ae
open Go.ChangeShapes Go.WideShapes Go.ChangeAt Go.RowKit
set_option maxRecDepth 100000 in
theorem open_sees {H : Type} {enc : TypeId × Value → H} {w : World} {r : Reach} {b0 base : Nat} {v : Value} {d : DataW H} {ps : List MemPlace}
    (hval : Value.okWide Tryd.prog w r b0 49 v) (hd : DataW.Trod enc Tryd.prog w base (fun _ => true) true 49 v d ps) : ∃ xs, Sees w v xs := by
  obtain ⟨fuel, hf⟩ := hd
  have hv : ∀ c : Value, v.cells.toList = [c] → (∃ x l k, c = .slice x l k) → v = c := by
    intro c hc ⟨x, l, k, hx⟩
    obtain ⟨x', l', k', rfl⟩ := okWide_slice Tryd.underlying49 hval
    simpa [Value.cells] using hc
  rcases open_ints Tryd.underlying49 Tryd.underlying5 cellsOf5 hf with ⟨hc, _⟩ | ⟨a, len, cap, zs, hc, _, hl, hm, hlen, _, hcell, hwf⟩
  · exact ⟨[], by rw [hv _ hc ⟨_, _, _, rfl⟩]; exact ⟨byt_nil, .inl ⟨rfl, rfl⟩⟩⟩
  · have hvv := hv _ hc ⟨_, _, _, rfl⟩
    subst hvv
    rw [if_pos rfl] at hlen
    have hlz : ((zs.take len).map Int.toNat).length = len := by rw [List.length_map, List.length_take]; omega
    refine ⟨(zs.take len).map Int.toNat, fun x hx => ?_, ?_⟩
    · obtain ⟨z, hz, rfl⟩ := List.mem_map.1 hx
      have := bounds_u8 (hwf z (List.mem_of_mem_take hz))
      omega
    by_cases h0 : len = 0
    · subst h0
      exact .inr (.inl ⟨a, cap, rfl, by simp, hm⟩)
    · obtain ⟨b, o, rfl, h2⟩ := ints_at hcell (by omega)
      refine .inr (.inr ⟨b, o, cap, by rw [hlz], fun e => h0 (by rw [← hlz, e]; rfl), by omega, hm, fun i hi => ?_⟩)
      rw [hlz] at hi
      rw [h2 i (by omega)]
      have hz : zs.getD i 0 = zs[i]'(by omega) := by simp [List.getD, show i < zs.length by omega]
      have hb := bounds_u8 (hwf (zs[i]'(by omega)) (List.getElem_mem _))
      have e : at_ ((zs.take len).map Int.toNat) i = (zs[i]'(by omega)).toNat := by simp [at_, List.getD, hi, show i < zs.length by omega]
      rw [e, hz, Int.toNat_of_nonneg hb.1]
end Go.Proofs.YtpkeofioobmmoaaDoor.ae
