/-
  Contract of package bits: Free. Condition: the row lies in memory as a size, a map and words.
-/
import Derived.Test.YtjdamlmoegippaaDoorDkC
namespace Go.Proofs.YtjdamlmoegippaaDoor.dk
open Go.RowKit
/-- What Free tells. -/
def FreeO (N : Nat) (f : Nat → Nat) (i : Int) (p : Int) (b : Bool) : Prop :=
  (b = true ∧ ∃ q : Nat, p = q ∧ i ≤ q ∧ q < N ∧ f q = 0 ∧ ∀ j : Nat, i ≤ j → j < q → f j ≠ 0) ∨ (b = false ∧ p = 0 ∧ ∀ j : Nat, i ≤ j → j < N → f j ≠ 0)
theorem FreeO.one {N : Nat} {f : Nat → Nat} {i p p' : Int} {b b' : Bool} (h : FreeO N f i p b) (h' : FreeO N f i p' b') : p = p' ∧ b = b' := by
  rcases h with ⟨rfl, q, rfl, h1, h2, h3, h4⟩ | ⟨rfl, rfl, h4⟩ <;> rcases h' with ⟨rfl, q', rfl, k1, k2, k3, k4⟩ | ⟨rfl, rfl, k4⟩
  · refine ⟨?_, rfl⟩
    rcases Nat.lt_trichotomy q q' with e | e | e
    · exact absurd h3 (k4 q h1 e)
    · rw [e]
    · exact absurd k3 (h4 q' k1 e)
  · exact absurd h3 (k4 q h1 h2)
  · exact absurd k3 (h4 q' k1 k2)
  · exact ⟨rfl, rfl⟩
theorem FreeO.max {N : Nat} {f : Nat → Nat} {i : Int} {n : Nat} {p : Int} {b : Bool} (h : FreeO N f (n : Int) p b) (hn : (n : Int) = max i 0) : FreeO N f i p b := by
  rcases h with ⟨rfl, q, rfl, h1, h2, h3, h4⟩ | ⟨rfl, rfl, h4⟩
  · exact .inl ⟨rfl, q, rfl, by omega, h2, h3, fun j hj => h4 j (by omega)⟩
  · exact .inr ⟨rfl, rfl, fun j hj => h4 j (by omega)⟩
def FreeP (N : Nat) (f : Nat → Nat) (i : Int) (w : World) (e : Ending) (w' : World) : Prop := ∃ (p : Int) (b : Bool), e = .returned (.tuple #[.int .i64 p, .bool b]) ∧ FreeO N f i p b ∧ w = w'
/-- A word, and its digits. -/
theorem BR.word {w : World} {g N mb wb : Nat} {f : Nat → Nat} (h : BR w g N mb wb f) (i : Nat) (hi : i < N) :
    ∃ m : Nat, w.cell? ⟨wb, i / 64, none⟩ = some (.int .u64 m) ∧ m < 2 ^ 64 ∧ ∀ j, j / 64 = i / 64 → m.testBit (j % 64) = decide (f j ≠ 0) := by
  obtain ⟨m, k1, k2, k3, k4, _⟩ := h.wds.set (i / 64) (by omega)
  refine ⟨m, k1, k3, fun j hj => ?_⟩
  rw [k4 (j % 64) (by omega)]
  congr 3
  have : 64 * (i / 64) + j % 64 = j := by omega
  rw [this]
set_option maxRecDepth 100000 in
set_option maxHeartbeats 2000000 in
theorem freeB_at {w : World} {g N mb wb : Nat} {f : Nat → Nat} (h : BR w g N mb wb f) (i0 : Int) (s : Nat) (hs : (i0 < 0 ∧ s = 0) ∨ i0 = s) :
    Calls Tryd.prog 42 #[.pointer (some ⟨g, 0, none⟩), .int .i64 i0] w (FreeP N f s w) := by
  have n2 := h.n2
  have H := Lib.hid h
  have c0 := h.c0
  have c2 := h.c2
  obtain ⟨nw, hnw⟩ : ∃ nw, (N + 63) / 64 = nw := ⟨_, rfl⟩
  rw [hnw] at c2
  have hn1 : nw * 64 ≤ N + 63 := by omega
  have hn2 : N ≤ nw * 64 := by omega
  clear h hnw
  rcases hs with ⟨h1, h2⟩ | rfl
  case' inl => have HS := Lib.hid h2; clear h2
  all_goals
    go_enter Tryd.func42, Tryd.ntmps42
    go_wp2_with fail
    go_step3
    go_wp2_with fail
    go_step3
    go_wp2_with fail
    go_loopg [6, 7, 8, 9, 10] (N - s) (fun r v6 v7 vi _ _ wr => ∃ i : Nat, r = N - i ∧ s ≤ i ∧ v6 = .int .i64 0 ∧ v7 = .bool false ∧ vi = .int .i64 i ∧ w = wr ∧ ∀ j : Nat, s ≤ j → j < i → j < N → f j ≠ 0)
    case atStart => first
      | exact ⟨s, rfl, Nat.le_refl _, rfl, rfl, rfl, rfl, fun j h1 h2 => by omega⟩
      | exact ⟨0, (by rw [HS.out]), (by rw [HS.out]; exact Nat.le_refl _), rfl, rfl, rfl, rfl, fun j h1 h2 => by omega⟩
    case round =>
      obtain ⟨i, hr, hsi, rfl, rfl, rfl, rfl, hno⟩ := hrel
      have HNO := Lib.hid hno
      have HR := Lib.hid hr
      clear hno hr
      by_cases hlt : i < N
      · obtain ⟨m, k1, k3, k4⟩ := H.out.word i hlt
        have K4 := Lib.hid k4
        clear k4
        by_cases hm : m = 18446744073709551615
        · have hful := (full_bit m k3).1 hm
          have HF := Lib.hid hful
          have hmq : ((m : Int) == 18446744073709551615) = true := by simp; omega
          clear hm hful k3
          go_wp2_with (go_at_call 49; refine (sizeB H.out).mono ?_; rintro e w' ⟨rfl, rfl⟩)
          go_roundg (N - (i / 64 + 1) * 64)
          case measure => have := HR.out; omega
          case rel => exact ⟨(i / 64 + 1) * 64, rfl, by omega, rfl, rfl, by go_num, rfl, fun j h1 h2 h3 => by
            by_cases hj : j < i
            · exact HNO.out j h1 hj h3
            · have e := K4.out j (by omega)
              rw [HF.out _ (by omega)] at e
              exact of_decide_eq_true e.symm⟩
        · have hmq : ((m : Int) == 18446744073709551615) = false := by simp; omega
          have K3 := Lib.hid k3
          clear hm k3
          obtain ⟨B, hB⟩ : ∃ B : Nat, B = min ((i / 64 + 1) * 64) N := ⟨_, rfl⟩
          have hiB : i < B := by omega
          have hBN : B ≤ N := by omega
          have hBW : B ≤ (i / 64 + 1) * 64 := by omega
          by_cases hNB : (N : Int) < ((i : Int) / 64 + 1) * 64
          case' pos => have HB : Hid (B = N) := by show B = N; omega
          case' neg => have HB : Hid (B = (i / 64 + 1) * 64) := by show B = (i / 64 + 1) * 64; omega
          all_goals
            clear hB
            go_wp2_with (go_at_call 49; refine (sizeB H.out).mono ?_; rintro e w' ⟨rfl, rfl⟩)
            go_loopg [6, 7, 10] (B - i) (fun r v6 v7 va wr => ∃ q : Nat, r = B - q ∧ i ≤ q ∧ q ≤ B ∧ v6 = .int .i64 0 ∧ v7 = .bool false ∧ va = .int .i64 q ∧ w = wr ∧ ∀ j : Nat, i ≤ j → j < q → f j ≠ 0)
            case atStart => exact ⟨i, rfl, Nat.le_refl _, by omega, rfl, rfl, rfl, rfl, fun j h1 h2 => by omega⟩
            case round =>
              obtain ⟨q, hr, hiq, hqB, rfl, rfl, rfl, rfl, hq⟩ := hrel
              have HQ := Lib.hid hq
              have HR2 := Lib.hid hr
              clear hq hr
              by_cases hlt2 : q < B
              · have hqN : q < N := by omega
                have hqW : (q : Int) < ((i : Int) / 64 + 1) * 64 := by omega
                obtain ⟨d, hd⟩ : ∃ d : Nat, 2 ^ (q % 64) = d := ⟨_, rfl⟩
                have HD := fun W => digitB q (by omega) W
                have hand := u64_and m d K3.out (by rw [← hd]; exact pow_lt _ (by omega))
                rw [hd] at HD
                have HD' := Lib.hid HD
                have hz := and_pow m (q % 64)
                rw [K4.out q (by omega), hd] at hz
                obtain ⟨A, hA⟩ : ∃ A : Nat, m &&& d = A := ⟨_, rfl⟩
                rw [hA] at hand hz
                clear HD hA hd
                by_cases hf : f q = 0
                · have hA0 : A = 0 := hz.2 (by simp [hf])
                  have hat : ((A : Int) == 0) = true := by simp [hA0]
                  have HF := Lib.hid hf
                  clear hz hA0 hf
                  go_wp2_with (go_at_call 55; refine (HD'.out _).mono ?_; rintro e w' ⟨rfl, rfl⟩)
                  rw [Exit.noGoto_ret]
                  go_ret2
                  exact ⟨q, true, rfl, .inl ⟨rfl, q, rfl, by omega, by omega, HF.out, fun j h1 h2 => by
                    by_cases hj : j < i
                    · exact HNO.out j (by omega) hj (by omega)
                    · exact HQ.out j (by omega) h2⟩, rfl⟩
                · have hA0 : ¬ A = 0 := fun e => by have := hz.1 e; simp at this; exact hf this
                  have hat : ((A : Int) == 0) = false := by simp; omega
                  have HF := Lib.hid hf
                  clear hz hA0 hf
                  go_wp2_with (go_at_call 55; refine (HD'.out _).mono ?_; rintro e w' ⟨rfl, rfl⟩)
                  go_roundg (B - (q + 1))
                  case measure => have := HR2.out; omega
                  case rel => exact ⟨q + 1, rfl, by omega, by omega, rfl, rfl, by go_num, rfl, fun j h1 h2 => by
                    by_cases hj : j < q
                    · exact HQ.out j h1 hj
                    · have : j = q := by omega
                      rw [this]; exact HF.out⟩
              · have hqe : q = B := by omega
                have e1 := HB.out
                have hqN : ¬ (q : Int) < B := by omega
                go_wp2_with fail
                go_roundg (N - (i / 64 + 1) * 64)
                case measure => have := HR.out; omega
                case rel => exact ⟨(i / 64 + 1) * 64, rfl, by omega, rfl, rfl, by go_num, rfl, fun j h1 h2 h3 => by
                  by_cases hj : j < i
                  · exact HNO.out j h1 hj h3
                  · exact HQ.out j (by omega) (by omega)⟩
      · go_wp2_with (go_at_call 49; refine (sizeB H.out).mono ?_; rintro e w' ⟨rfl, rfl⟩)
        rw [Exit.noGoto_ret]
        go_ret2
        exact ⟨0, false, rfl, .inr ⟨rfl, rfl, fun j h1 h2 => HNO.out j (by omega) (by omega) h2⟩, rfl⟩
theorem freeB {w : World} {g N mb wb : Nat} {f : Nat → Nat} (h : BR w g N mb wb f) (i : Int) :
    Calls Tryd.prog 42 #[.pointer (some ⟨g, 0, none⟩), .int .i64 i] w (FreeP N f i w) :=
  (freeB_at h i i.toNat (by omega)).mono fun e w' ⟨p, b, he, hf, hw⟩ => ⟨p, b, he, hf.max (by omega), hw⟩
/-- A row that no call made. -/
structure UR (w : World) (g : Nat) : Prop where
  row : w.heap[g]? = some (.cells #[.int .i64 0, .map none, .slice none 0 0] 112 (0, 0))
section
variable {w w' : World} {g : Nat}
theorem UR.lt (h : UR w g) : g < w.heap.size := (Array.getElem?_eq_some_iff.1 h.row).1
theorem UR.below (h : UR w g) (hb : Below w.heap.size w w') : UR w' g := ⟨(hb.block g h.lt).trans h.row⟩
theorem UR.c0 (h : UR w g) : w.cell? ⟨g, 0, none⟩ = some (.int .i64 0) := by rw [cell_of_row _ _ _ _ _ _ h.row]; rfl
theorem UR.c1 (h : UR w g) : w.cell? ⟨g, 1, none⟩ = some (.map none) := by rw [cell_of_row _ _ _ _ _ _ h.row]; rfl
end
end Go.Proofs.YtjdamlmoegippaaDoor.dk
