/-
  Contracts of the functions that the statements of package entry go through: keys of volumes, blocks and tenants, ours and the document's. No condition.
-/
import Derived.Test.YtbhkhkiidaemcaaEA
namespace Go.Proofs.Ytbhkhkiidaemcaa
open Go.RowKit
def vE (v : Int) : Int := if v < 1 ∨ 8 < v then 52 else 0
def vK (v : Int) : Int := if v < 1 ∨ 8 < v then 0 else v * 4294967296
def bE (v b : Int) : Int := if v < 1 ∨ 8 < v then 52 else if b < 0 ∨ 255 < b then 62 else 0
def bK (v b : Int) : Int := if v < 1 ∨ 8 < v then 0 else if b < 0 ∨ 255 < b then 0 else v * 4294967296 + 1 + b
def tE (v : Int) : Int := if v < 1 ∨ 8 < v then 51 else 0
def tK (v : Int) : Int := if v < 1 ∨ 8 < v then 0 else v * 2
def Key1P (w : World) (k q : Int) (e : Ending) (w' : World) : Prop := e = .returned (.tuple #[.int .u64 k, .int .i64 q]) ∧ w = w'
theorem vno {w : World} {v : Int} (h : v < 1 ∨ 8 < v) : Key1P w (vK v) (vE v) (.returned (.tuple #[.int .u64 0, .int .i64 52])) w := by
  unfold vE vK; rw [if_pos h, if_pos h]; exact ⟨rfl, rfl⟩
theorem vyes {w : World} {v k : Int} (h : ¬ (v < 1 ∨ 8 < v)) (hk : k = v * 4294967296) : Key1P w (vK v) (vE v) (.returned (.tuple #[.int .u64 k, .int .i64 0])) w := by
  unfold vE vK; rw [if_neg h, if_neg h, hk]; exact ⟨rfl, rfl⟩
theorem tno {w : World} {v : Int} (h : v < 1 ∨ 8 < v) : Key1P w (tK v) (tE v) (.returned (.tuple #[.int .u64 0, .int .i64 51])) w := by
  unfold tE tK; rw [if_pos h, if_pos h]; exact ⟨rfl, rfl⟩
theorem tyes {w : World} {v k : Int} (h : ¬ (v < 1 ∨ 8 < v)) (hk : k = v * 2) : Key1P w (tK v) (tE v) (.returned (.tuple #[.int .u64 k, .int .i64 0])) w := by
  unfold tE tK; rw [if_neg h, if_neg h, hk]; exact ⟨rfl, rfl⟩
theorem bno1 {w : World} {v b : Int} (h : v < 1 ∨ 8 < v) : Key1P w (bK v b) (bE v b) (.returned (.tuple #[.int .u64 0, .int .i64 52])) w := by
  unfold bE bK; rw [if_pos h, if_pos h]; exact ⟨rfl, rfl⟩
theorem bno2 {w : World} {v b : Int} (h : ¬ (v < 1 ∨ 8 < v)) (h2 : b < 0 ∨ 255 < b) : Key1P w (bK v b) (bE v b) (.returned (.tuple #[.int .u64 0, .int .i64 62])) w := by
  unfold bE bK; rw [if_neg h, if_neg h, if_pos h2, if_pos h2]; exact ⟨rfl, rfl⟩
theorem byes {w : World} {v b k : Int} (h : ¬ (v < 1 ∨ 8 < v)) (h2 : ¬ (b < 0 ∨ 255 < b)) (hk : k = v * 4294967296 + 1 + b) : Key1P w (bK v b) (bE v b) (.returned (.tuple #[.int .u64 k, .int .i64 0])) w := by
  unfold bE bK; rw [if_neg h, if_neg h, if_neg h2, if_neg h2, hk]; exact ⟨rfl, rfl⟩
set_option maxRecDepth 100000 in
theorem volKey (v : Int) (w : World) : Calls Try.prog 8 #[.int .i64 v] w (Key1P w (vK v) (vE v)) := by
  by_cases h1 : v < 1
  · go_enter Try.func8, Try.ntmps8
    go_wp2_with fail
    go_ret2
    exact vno (.inl h1)
  · by_cases h2 : 8 < v
    · go_enter Try.func8, Try.ntmps8
      go_wp2_with fail
      go_ret2
      exact vno (.inr h2)
    · go_enter Try.func8, Try.ntmps8
      go_wp2_with fail
      go_ret2
      exact vyes (by omega) (by omega)
set_option maxRecDepth 100000 in
theorem refVolKey (v : Int) (w : World) : Calls Try.prog 9 #[.int .i64 v] w (Key1P w (vK v) (vE v)) := by
  by_cases h1 : v < 1
  · go_enter Try.func9, Try.ntmps9
    go_wp2_with fail
    go_ret2
    exact vno (.inl h1)
  · by_cases h2 : 8 < v
    · go_enter Try.func9, Try.ntmps9
      go_wp2_with fail
      go_ret2
      exact vno (.inr h2)
    · go_enter Try.func9, Try.ntmps9
      go_wp2_with fail
      go_ret2
      exact vyes (by omega) (by omega)
set_option maxRecDepth 100000 in
theorem tenKey (v : Int) (w : World) : Calls Try.prog 12 #[.int .i64 v] w (Key1P w (tK v) (tE v)) := by
  by_cases h1 : v < 1
  · go_enter Try.func12, Try.ntmps12
    go_wp2_with fail
    go_ret2
    exact tno (.inl h1)
  · by_cases h2 : 8 < v
    · go_enter Try.func12, Try.ntmps12
      go_wp2_with fail
      go_ret2
      exact tno (.inr h2)
    · go_enter Try.func12, Try.ntmps12
      go_wp2_with fail
      go_ret2
      exact tyes (by omega) (by omega)
set_option maxRecDepth 100000 in
theorem refTenKey (v : Int) (w : World) : Calls Try.prog 13 #[.int .i64 v] w (Key1P w (tK v) (tE v)) := by
  by_cases h1 : v < 1
  · go_enter Try.func13, Try.ntmps13
    go_wp2_with fail
    go_ret2
    exact tno (.inl h1)
  · by_cases h2 : 8 < v
    · go_enter Try.func13, Try.ntmps13
      go_wp2_with fail
      go_ret2
      exact tno (.inr h2)
    · go_enter Try.func13, Try.ntmps13
      go_wp2_with fail
      go_ret2
      exact tyes (by omega) (by omega)
set_option maxRecDepth 100000 in
theorem blkKey (v b : Int) (w : World) : Calls Try.prog 10 #[.int .i64 v, .int .i64 b] w (Key1P w (bK v b) (bE v b)) := by
  have C := Lib.hid (fun W => volKey v W)
  unfold Key1P at C
  by_cases h : v < 1 ∨ 8 < v
  · have e1 : vE v = 52 := if_pos h
    have e2 : vK v = 0 := if_pos h
    rw [e1, e2] at C
    have R := Lib.hid (@bno1 w v b h)
    clear e1 e2 h
    go_enter Try.func10, Try.ntmps10
    go_wp2_with fail
    refine (C.out _).mono ?_
    rintro e w' ⟨rfl, rfl⟩
    go_wp2_with fail
    go_ret2
    exact R.out
  · have e1 : vE v = 0 := if_neg h
    have e2 : vK v = v * 4294967296 := if_neg h
    rw [e1, e2] at C
    have k0 : 0 ≤ v * 4294967296 := by omega
    have k1 : v * 4294967296 ≤ 34359738368 := by omega
    have H := Lib.hid h
    have E : Hid (∀ x, x = v * 4294967296 → x = v * 4294967296) := fun _ h => h
    clear e1 e2 h
    generalize hx : v * 4294967296 = x at *
    have HX := Lib.hid hx
    clear hx E
    by_cases h3 : b < 0
    · go_enter Try.func10, Try.ntmps10
      go_wp2_with fail
      refine (C.out _).mono ?_
      rintro e w' ⟨rfl, rfl⟩
      go_wp2_with fail
      go_ret2
      exact bno2 H.out (.inl h3)
    · by_cases h4 : 256 ≤ b
      · have h5 : 255 < b := by omega
        go_enter Try.func10, Try.ntmps10
        go_wp2_with fail
        refine (C.out _).mono ?_
        rintro e w' ⟨rfl, rfl⟩
        go_wp2_with fail
        go_ret2
        exact bno2 H.out (.inr (by omega))
      · have h5 : ¬ 255 < b := by omega
        have h6 : 0 ≤ b := by omega
        have h7 : b ≤ 255 := by omega
        clear h3
        go_enter Try.func10, Try.ntmps10
        go_wp2_with fail
        refine (C.out _).mono ?_
        rintro e w' ⟨rfl, rfl⟩
        go_wp2_with fail
        go_ret2
        exact byes H.out (by omega) (by have := HX.out; omega)
set_option maxRecDepth 100000 in
theorem refBlkKey (v b : Int) (w : World) : Calls Try.prog 11 #[.int .i64 v, .int .i64 b] w (Key1P w (bK v b) (bE v b)) := by
  have C := Lib.hid (fun W => refVolKey v W)
  unfold Key1P at C
  by_cases h : v < 1 ∨ 8 < v
  · have e1 : vE v = 52 := if_pos h
    have e2 : vK v = 0 := if_pos h
    rw [e1, e2] at C
    have R := Lib.hid (@bno1 w v b h)
    clear e1 e2 h
    go_enter Try.func11, Try.ntmps11
    go_wp2_with fail
    refine (C.out _).mono ?_
    rintro e w' ⟨rfl, rfl⟩
    go_wp2_with fail
    go_ret2
    exact R.out
  · have e1 : vE v = 0 := if_neg h
    have e2 : vK v = v * 4294967296 := if_neg h
    rw [e1, e2] at C
    have k0 : 0 ≤ v * 4294967296 := by omega
    have k1 : v * 4294967296 ≤ 34359738368 := by omega
    have H := Lib.hid h
    have E : Hid (∀ x, x = v * 4294967296 → x = v * 4294967296) := fun _ h => h
    clear e1 e2 h
    generalize hx : v * 4294967296 = x at *
    have HX := Lib.hid hx
    clear hx E
    by_cases h3 : b < 0
    · go_enter Try.func11, Try.ntmps11
      go_wp2_with fail
      refine (C.out _).mono ?_
      rintro e w' ⟨rfl, rfl⟩
      go_wp2_with fail
      go_ret2
      exact bno2 H.out (.inl h3)
    · by_cases h4 : 256 ≤ b
      · have h5 : 255 < b := by omega
        go_enter Try.func11, Try.ntmps11
        go_wp2_with fail
        refine (C.out _).mono ?_
        rintro e w' ⟨rfl, rfl⟩
        go_wp2_with fail
        go_ret2
        exact bno2 H.out (.inr (by omega))
      · have h5 : ¬ 255 < b := by omega
        have h6 : 0 ≤ b := by omega
        have h7 : b ≤ 255 := by omega
        clear h3
        go_enter Try.func11, Try.ntmps11
        go_wp2_with fail
        refine (C.out _).mono ?_
        rintro e w' ⟨rfl, rfl⟩
        go_wp2_with fail
        go_ret2
        exact byes H.out (by omega) (by have := HX.out; omega)
end Go.Proofs.Ytbhkhkiidaemcaa
