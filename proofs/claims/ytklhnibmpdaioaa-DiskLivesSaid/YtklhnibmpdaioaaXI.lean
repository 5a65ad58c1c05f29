/-
  Contract of the document's disk: Tamper. Condition: it lies in memory.
-/
import Derived.Test.YtklhnibmpdaioaaXH
namespace Go.Proofs.Ytklhnibmpdaioaa
open Go.RowKit
/-- The writes of other sectors. -/
def othL (s : Nat) (L : List (Nat × Nat × Bool)) : List (Nat × Nat × Bool) := L.filter (fun e => decide (e.1 ≠ s))
theorem othL_take {L : List (Nat × Nat × Bool)} {i a y : Nat} {b : Bool} (s : Nat) (h : L[i]? = some (a, y, b)) : othL s (L.take (i + 1)) = othL s (L.take i) ++ (if a ≠ s then [(a, y, b)] else []) := by
  obtain ⟨h1, h2⟩ := List.getElem?_eq_some_iff.1 h
  unfold othL
  rw [List.take_succ_eq_append_getElem h1, h2, List.filter_append]
  congr 1
  by_cases e : a = s <;> simp [e]
theorem othL_len (s : Nat) (L : List (Nat × Nat × Bool)) : (othL s L).length ≤ L.length := List.length_filter_le _ _
section
variable {w w' : World} {q N rb : Nat} {lv v : Value} {L : List (Nat × Nat × Bool)} {rg : List Value} {c p : Int} {d : Bool}
theorem tamperX_err (h : XD w q N lv L rb rg c p d) (s : Nat) (hx : s < 4294967296) (x : Option Addr) (n k : Nat) (he : ¬ s < N ∨ n ≠ 512) :
    Calls Try.prog 56 #[.pointer (some ⟨q, 0, none⟩), .int .u32 s, .slice x n k] w fun e w' => e = .returned (.int .i64 (if s < N then 3 else 31)) ∧ w = w' := by
  have TH := Lib.hid (thereX h s hx)
  by_cases hs : s < N
  · rw [decide_eq_true hs] at TH
    simp only [hs, if_true]
    have hn5 : ((n : Int) != 512) = true := by
      have : n ≠ 512 := by simpa [hs] using he
      simp; omega
    clear h he
    go_enter Try.func56, Try.ntmps56
    go_wp2_with (go_at_call 59; refine TH.out.mono ?_; rintro e w' ⟨rfl, rfl⟩)
    go_ret
    exact ⟨rfl, rfl⟩
  · rw [decide_eq_false hs] at TH
    simp only [hs, if_false]
    clear h he
    go_enter Try.func56, Try.ntmps56
    go_wp2_with (go_at_call 59; refine TH.out.mono ?_; rintro e w' ⟨rfl, rfl⟩)
    go_ret
    exact ⟨rfl, rfl⟩
set_option maxRecDepth 100000 in
set_option maxHeartbeats 2000000 in
theorem tamperX_ok (h : XD w q N lv L rb rg c p d) (hL : L.length ≤ 1000000) (s y : Nat) (hs : s < N) (hv : TX w v (tx y)) (hy : y < 256) :
    Calls Try.prog 56 #[.pointer (some ⟨q, 0, none⟩), .int .u32 s, v] w (XWr w q N lv (othL s L ++ [(s, y, true)]) rb rg c p d (.int .i64 0)) := by
  have n2 := h.n2
  have TH := Lib.hid (thereX h s (by omega))
  rw [decide_eq_true hs] at TH
  obtain ⟨x0, lk, rfl, hk1, hk2⟩ := h.form
  have H := Lib.hid h
  have c1 := h.c1
  have hl2 : (L.length : Int) ≤ 1000000 := by omega
  have HL := Lib.hid hL
  have HS : Hid (s < 65536 ∧ y < 256) := ⟨by omega, hy⟩
  have HE : Hid (L.take L.length = L) := List.take_length
  have R0 : Hid (XR w w (.slice none 0 0) []) := ⟨⟨[], Rw.nil _ _ _, rfl⟩, fun j hj => by simp [Value.ownBlock] at hj⟩
  have V := Lib.hid hv
  obtain ⟨vb, rfl, _⟩ := hv
  rw [tx_len] at V ⊢
  clear h hk1 hk2 hL n2 hs hy
  go_enter Try.func56, Try.ntmps56
  go_wp2_with (go_at_call 59; refine TH.out.mono ?_; rintro e w' ⟨rfl, rfl⟩)
  go_loopg [7, 8] L.length (fun r v7 v8 wr => ∃ i : Nat, r + i = L.length ∧ v8 = .int .i64 i ∧ XR w wr v7 (othL s (L.take i)) ∧ Below w.heap.size w wr)
  case atStart => exact ⟨0, by omega, rfl, R0.out, Below.refl _ _⟩
  case round =>
    obtain ⟨i, hr, rfl, hxr, hb⟩ := hrel
    obtain ⟨lx, ln, lc, rfl⟩ : ∃ lx ln lc, u7 = .slice lx ln lc := by obtain ⟨⟨vs, h1, _⟩, _⟩ := hxr; obtain ⟨_, _, h, _⟩ := h1.form; exact ⟨_, _, _, h⟩
    have HR := Lib.hid hr
    have XR0 := Lib.hid hxr
    have HB := Lib.hid hb
    have HX := Lib.hid (H.out.below hb)
    have cc := HX.out.c1
    have CL : Hid ((othL s (L.take i)).length ≤ 1000000) := by
      have h1 := othL_len s (L.take i)
      have h2 : (L.take i).length ≤ L.length := by rw [List.length_take]; omega
      show _ ≤ _; have := HL.out; omega
    by_cases hi : i < L.length
    · obtain ⟨a, z, b, he⟩ : ∃ a z b, L[i]? = some (a, z, b) := ⟨_, _, _, List.getElem?_eq_getElem hi⟩
      obtain ⟨g, o, vv, rfl, d0, d1, d2, _, tv, ha, hz⟩ := HX.out.at he
      have CT := Lib.hid (othL_take s he)
      have hi2 : (i : Int) < L.length := by omega
      obtain ⟨vx, vn, vk, rfl⟩ : ∃ vx vn vk, vv = .slice vx vn vk := by obtain ⟨_, _, _, rfl, _⟩ := tv; exact ⟨_, _, _, rfl⟩
      have TV := Lib.hid tv
      have SY : Hid (a < 65536 ∧ z < 256) := ⟨ha, hz⟩
      clear hr he hxr hb c1 tv ha hz
      generalize othL s (L.take i) = C at *
      have PU : Hid (∃ lv' w', (Builtin.append_ #[38, 38] 38 #[.slice lx ln lc, .slice (some ⟨wr.heap.size, 0, none⟩) 1 1]).run Try.prog (wr.alloc (.cells #[.int .u32 a, .slice vx vn vk, .bool b] 92)) = .ok lv' w' ∧ XR w w' lv' (C ++ [(a, z, b)]) ∧ Below w.heap.size w w') := by
        obtain ⟨lv', w', h1, h2, h3⟩ := XR0.out.push (b := b) HB.out.size TV.out SY.out.1 SY.out.2 CL.out
        exact ⟨lv', w', h1, h2, HB.out.trans h3⟩
      by_cases ha : a = s
      · subst ha
        rw [if_neg (by simp), List.append_nil] at CT
        clear PU
        go_wp2_with fail
        go_roundg (L.length - (i + 1))
        case measure => have := HR.out; omega
        case rel => exact ⟨i + 1, by have := HR.out; omega, by go_num, by rw [CT.out]; exact XR0.out, HB.out⟩
      · rw [if_pos ha] at CT
        have ha2 : ((a : Int) != (s : Int)) = true := by simp; omega
        obtain ⟨lv', w2, run, r1, b1⟩ := PU.out
        have RUN := Lib.hid run
        have R1 := Lib.hid r1
        have B1 := Lib.hid b1
        clear run r1 b1 PU XR0
        go_wp2_with (at_builtin; refine wpList_appX rfl (.tmp 35) (.tmp 43) rfl rfl rfl rfl RUN.out ?_)
        go_roundg (L.length - (i + 1))
        case measure => have := HR.out; omega
        case rel => exact ⟨i + 1, by have := HR.out; omega, by go_num, by rw [CT.out]; exact R1.out, B1.out⟩
    · have hz : i = L.length := by omega
      subst hz
      rw [HE.out] at XR0 CL
      clear hr HR hi hxr hb
      have CP := Lib.hid (copyX (V.out.below HB.out))
      go_wp2_with fail
      refine CP.out.mono ?_
      rintro e w3 ⟨v3, rfl, ht3, hb3⟩
      obtain ⟨x3, n3, k3, rfl⟩ : ∃ x3 n3 k3, v3 = .slice x3 n3 k3 := by obtain ⟨_, _, _, rfl, _⟩ := ht3; exact ⟨_, _, _, rfl⟩
      have PU : Hid (∃ lv' w', (Builtin.append_ #[38, 38] 38 #[.slice lx ln lc, .slice (some ⟨w3.heap.size, 0, none⟩) 1 1]).run Try.prog (w3.alloc (.cells #[.int .u32 s, .slice x3 n3 k3, .bool true] 92)) = .ok lv' w' ∧ XR w w' lv' (othL s L ++ [(s, y, true)]) ∧ Below w.heap.size w w') := by
        obtain ⟨lv', w', h1, h2, h3⟩ := (XR0.out.below hb3).push (b := true) (Nat.le_trans HB.out.size hb3.size) ht3 HS.out.1 HS.out.2 CL.out
        exact ⟨lv', w', h1, h2, (HB.out.trans (hb3.mono HB.out.size)).trans h3⟩
      obtain ⟨lv', w4, run, r1, b1⟩ := PU.out
      have X4 := H.out.below b1
      have HF : Hid (XD (w4.setCell ⟨q, 1, none⟩ lv') q N lv' (othL s L ++ [(s, y, true)]) rb rg c p d ∧ Mods (Xt q (.slice x0 L.length lk)) w (w4.setCell ⟨q, 1, none⟩ lv') ∧ ∀ j, lv'.ownBlock = some j → w.heap.size ≤ j) := by
        obtain ⟨h1, h2⟩ := X4.row_set r1.1
        exact ⟨h1, (Mods.of_below b1 (S := Xt q _)).trans h2 (fun j hj => .inl (.inl hj)), r1.2⟩
      obtain ⟨x5, n5, k5, rfl⟩ : ∃ x5 n5 k5, lv' = .slice x5 n5 k5 := by obtain ⟨⟨vs, h1, _⟩, _⟩ := r1; obtain ⟨_, _, h, _⟩ := h1.form; exact ⟨_, _, _, h⟩
      have f4 := X4.fz 1
      have e4 := X4.c1
      have RUN := Lib.hid run
      clear run r1 b1 PU XR0 CP ht3 hb3 X4 c1 cc
      go_wp2_with (at_builtin; refine wpList_appX rfl (.tmp 46) (.tmp 51) rfl rfl rfl rfl RUN.out ?_)
      go_ret
      exact ⟨_, rfl, HF.out.1, HF.out.2.1, fun j hj => .inr (HF.out.2.2 j hj)⟩
end
end Go.Proofs.Ytklhnibmpdaioaa
