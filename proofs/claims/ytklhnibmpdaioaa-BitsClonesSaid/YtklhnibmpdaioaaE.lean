/-
  Contract of package bits: Equal of two rows of one size. Condition: the rows lie in memory as a size, a map and words.
-/
import Derived.Test.YtklhnibmpdaioaaK
namespace Go.Proofs.Ytklhnibmpdaioaa
open Go.RowKit Go.Maps
/-- Are all places held as often? -/
def eqF (N : Nat) (f h : Nat → Nat) : Bool := decide (∀ i, i < N → f i = h i)
theorem cnt_mono {f h : Nat → Nat} (N : Nat) (e : ∀ i, i < N → f i ≠ 0 → h i ≠ 0) : cnt f N ≤ cnt h N := by
  induction N with
  | zero => exact Nat.le_refl _
  | succ n ih =>
    have := ih (fun i hi => e i (by omega))
    have h1 := e n (by omega)
    unfold cnt
    by_cases hf : f n = 0
    · rw [if_pos hf]; split <;> omega
    · rw [if_neg hf, if_neg (h1 hf)]; omega
theorem cnt_back {f h : Nat → Nat} (N : Nat) (e : ∀ i, i < N → f i ≠ 0 → h i ≠ 0) (hc : cnt f N = cnt h N) : ∀ i, i < N → h i ≠ 0 → f i ≠ 0 := by
  induction N with
  | zero => intro i hi; omega
  | succ n ih =>
    have hm := cnt_mono n (fun i hi => e i (by omega))
    have h1 := e n (by omega)
    unfold cnt at hc
    intro i hi hh hf
    by_cases hin : i = n
    · subst hin
      rw [if_pos hf, if_neg hh] at hc
      omega
    · refine ih (fun i hi => e i (by omega)) ?_ i (by omega) hh hf
      by_cases hfn : f n = 0
      · rw [if_pos hfn] at hc
        split at hc <;> omega
      · rw [if_neg hfn, if_neg (h1 hfn)] at hc
        omega
theorem eqD_eq {N : Nat} {f h : Nat → Nat} {D1 D2 : DataW Value} {es : List (Lit × DataW Value)} (hD : D1 = .map es) (hap : es.Pairwise (fun p q => p.1 ≠ q.1)) (hk : ∀ p ∈ es, WideAt.IsKeyLit p.1) (s1 : Maps.size D1 = cnt f N) (s2 : Maps.size D2 = cnt h N)
    (a1 : ∀ l z, D1.atKey l z = ent (bf f l) z) (a2 : ∀ l z, D2.atKey l z = ent (bf h l) z) (tf : ∀ i, N ≤ i → f i = 0) : Lib.equalFuncD eqd D1 D2 = eqF N f h := by
  have hgood : ∀ i : Nat, f i ≠ 0 → h i = f i → ∀ p ∈ es, p.1 = .int .i64 i → Lib.goodD eqd D2 p = true := fun i hi he p hp hpi => by
    have e1 := WideAt.atKey_mem (DataW.nil : DataW Value) (hk p hp) hap (show (p.1, p.2) ∈ es from hp)
    rw [← hD, a1, hpi, bf_at, if_neg hi] at e1
    unfold Lib.goodD
    rw [MapV.has a2, hpi, bf_some, a2, ← e1, bf_at, if_neg (by omega), he]
    simp [ent, eqd, hi]
  have hmem : ∀ i : Nat, f i ≠ 0 → ∃ p ∈ es, p.1 = .int .i64 i ∧ p.2 = .held (.int .i64 (f i)) := fun i hi => by
    have hh : Maps.has D1 (.int .i64 i) = true := by rw [MapV.has a1, bf_some]; simp [hi]
    rw [hD] at hh
    obtain ⟨p, hp, hs⟩ := List.any_eq_true.1 (show es.any (fun p => p.1.sameKey (.int .i64 i)) = true from hh)
    have e0 := WideAt.sameKey_eq hs
    have e1 := WideAt.atKey_mem (DataW.nil : DataW Value) (hk p hp) hap (show (p.1, p.2) ∈ es from hp)
    rw [← hD, a1, e0, bf_at, if_neg hi] at e1
    exact ⟨p, hp, e0, e1.symm⟩
  unfold eqF
  rw [Bool.eq_iff_iff, decide_eq_true_iff]
  unfold Lib.equalFuncD
  rw [Bool.and_eq_true, decide_eq_true_iff, List.all_eq_true, hD]
  show (Maps.size (.map es) = Maps.size D2 ∧ ∀ p ∈ es, Lib.goodD eqd D2 p = true) ↔ _
  rw [← hD, s1, s2]
  constructor
  · rintro ⟨hs, hg⟩
    have hsub : ∀ i, f i ≠ 0 → h i = f i := fun i hi => by
      obtain ⟨p, hp, p1, p2⟩ := hmem i hi
      have := hg p hp
      unfold Lib.goodD at this
      rw [MapV.has a2, p1, p2, bf_some, a2, bf_at] at this
      by_cases hh : h i = 0
      · simp [hh] at this
      · rw [if_neg hh] at this
        simp [ent, eqd, hh] at this
        omega
    intro i hi
    by_cases hf : f i = 0
    · by_cases hh : h i = 0
      · rw [hf, hh]
      · exact absurd hf (cnt_back N (fun j _ hj => by rw [hsub j hj]; exact hj) hs i hi hh)
    · rw [hsub i hf]
  · intro he
    refine ⟨cnt_same N (fun i hi => by rw [he i hi]), fun p hp => ?_⟩
    have e1 := WideAt.atKey_mem (DataW.nil : DataW Value) (hk p hp) hap (show (p.1, p.2) ∈ es from hp)
    rw [← hD, a1] at e1
    have e2 := WideAt.atKey_mem (.held (.int .i64 0) : DataW Value) (hk p hp) hap (show (p.1, p.2) ∈ es from hp)
    rw [← hD, a1] at e2
    cases hb : bf f p.1 with
    | none => rw [hb] at e1 e2; simp only [ent] at e1 e2; rw [← e1] at e2; cases e2
    | some v =>
      have hb0 := hb
      unfold bf at hb
      split at hb
      · rename_i z hz
        split at hb
        · rename_i hc
          obtain ⟨i, rfl⟩ : ∃ i : Nat, z = i := ⟨z.toNat, by omega⟩
          rw [Int.toNat_natCast] at hc
          have hiN : i < N := by
            rcases Nat.lt_or_ge i N with q | q
            · exact q
            · exact absurd (tf i q) hc.2
          exact hgood i hc.2 (he i hiN).symm p hp hz
        · cases hb
      · cases hb
set_option maxRecDepth 100000 in
set_option maxHeartbeats 1000000 in
theorem equalB {w : World} {g N mb wb g' mb' wb' : Nat} {f f' : Nat → Nat} (h : BR w g N mb wb f) (h' : BR w g' N mb' wb' f') :
    Calls Try.prog 49 #[.pointer (some ⟨g, 0, none⟩), .pointer (some ⟨g', 0, none⟩)] w fun e w' => e = .returned (.bool (eqF N f f')) ∧ Below w.heap.size w w' := by
  have H := Lib.hid h
  have H' := Lib.hid h'
  have n1 := h.n1
  have hz : ((N : Int) == 0) = false := by simp; omega
  have c1 := h.c1
  have c1' := h'.c1
  obtain ⟨D1, o1, s1, a1⟩ := h.map.own keyed3 RI (fun l v e => bf_int f l v e)
  obtain ⟨D2, o2, s2, a2⟩ := h'.map.own keyed3 RI (fun l v e => bf_int f' l v e)
  obtain ⟨es, hD, hap, hk⟩ := o1.entries keyed3
  have he := eqD_eq (h := f') hD hap hk s1 s2 a1 a2 h.top
  have hE := mequal (w := w.drew) mb mb' _ _ D1 D2 o1.drew o2.drew
  rw [he] at hE
  have HE := Lib.hid hE
  clear h h' o1 o2 s1 s2 a1 a2 hD hap hk he hE
  go_enter Try.func49, Try.ntmps49
  go_wp2_with fail
  refine (sizeB H.out).mono ?_
  rintro e w' ⟨rfl, rfl⟩
  go_wp2_with fail
  refine (sizeB H'.out).mono ?_
  rintro e w' ⟨rfl, rfl⟩
  go_wp2_with fail
  refine wp_region_still_tail 12 (by kernel_rfl) (by kernel_rfl) ?_
  simp only [List.take_succ_cons, List.take_zero, List.drop_succ_cons, List.drop_zero]
  still_step
  still_call ((sizeB (H.out.heap (w' := w.drew) rfl)).mono fun e w' ⟨a, b⟩ => ⟨a, b.symm⟩)
  iterate 10 still_step
  refine wpStill_nil ?_
  change wpList _ _ _ _ _ w.drew
  go_wp2_with fail
  refine HE.out.mono ?_
  rintro e w' ⟨rfl, hg⟩
  have HG := Lib.hid hg
  clear hg
  go_wp2_with fail
  go_ret
  refine ⟨rfl, ?_⟩
  have := (Mods.of_grown HG.out)
  exact ⟨this.os, this.tape, this.output, this.size, fun k hk => this.block k hk (by simp)⟩
end Go.Proofs.Ytklhnibmpdaioaa
