/-
  The walk through a request's fields by their letters, with the closures (36, 38, 39). Condition: each letter is one of the thirteen.
-/
import Derived.Test.YtdohggpajhkkhaaRqB
namespace Go.Proofs.Ytdohggpajhkkhaa
open Go.RowKit

set_option maxRecDepth 100000 in
set_option maxHeartbeats 8000000 in
theorem eachW (R B : Nat) (s : ByteArray) (hs : ∀ i (h : i < s.size), isL (s[i]'h).toNat = true) (w : World) (St : Nat → World → Prop) (h0 : St 0 (w.iter s 0))
    (hit : ∀ k p W, St k W → W.heap[w.heap.size]? = some (.stringIter s p) → St k (W.iterAt w.heap.size s (p + 1)))
    (hnum : ∀ k W l, St k W → (∃ h : k < s.size, (s[k]'h).toNat = l) → isN l = true → Calls Try.prog 36 #[.pointer (some ⟨R, offL l, none⟩), .int .i64 (widN l), .pointer (some ⟨B, 0, none⟩)] W (Stp St w.heap.size k W))
    (hkey : ∀ k W l, St k W → (∃ h : k < s.size, (s[k]'h).toNat = l) → isK l = true → Calls Try.prog 38 #[.slice (some ⟨R, offL l, none⟩) 32 32, .pointer (some ⟨B, 0, none⟩)] W (Stp St w.heap.size k W))
    (hdat : ∀ k W, St k W → (∃ h : k < s.size, (s[k]'h).toNat = 100) → Calls Try.prog 39 #[.pointer (some ⟨R, 137, none⟩), .pointer (some ⟨B, 0, none⟩)] W (Stp St w.heap.size k W)) :
    Calls Try.prog 35 #[.pointer (some ⟨R, 0, none⟩), .string s, .func (.func 36) #[] #[.pointer (some ⟨B, 0, none⟩)], .func (.func 38) #[] #[.pointer (some ⟨B, 0, none⟩)], .func (.func 39) #[] #[.pointer (some ⟨B, 0, none⟩)]] w
      fun e w' => e = .returned (.tuple #[]) ∧ St s.size w' := by
  have hk0 : (w.iter s 0).heap[w.heap.size]? = some (.stringIter s 0) := World.iter_heap w s 0
  have H0 := Lib.hid h0
  have HIT := Lib.hid hit
  have HN := Lib.hid hnum
  have HK := Lib.hid hkey
  have HD := Lib.hid hdat
  have HS := Lib.hid hs
  clear h0 hit hnum hkey hdat hs
  go_enter Try.func35, Try.ntmps35
  go_wp2
  go_step3
  go_wp2
  go_step3
  go_wp2
  go_loopw [16] (fun _ wr => ∃ pos : Nat, pos ≤ s.size ∧ wr.heap[w.heap.size]? = some (.stringIter s pos) ∧ St pos wr)
    (fun _ wr => s.size - wr.iterPos w.heap.size)
  case atStart => exact ⟨0, Nat.zero_le _, hk0, H0.out⟩
  case round =>
    obtain ⟨pos, hps, hk, hst⟩ := hrel
    clear H0 hk0
    by_cases hp : pos < s.size
    · have hl := isL_cases (HS.out pos hp)
      have h128 : (s[pos]'hp).toNat < 128 := by omega
      have hnext : ∀ ty, (Instr.next (.pointer (some ⟨w.heap.size, 0, none⟩)) true ty).run Try.prog wr = _ := fun ty => Lib.run_next_ascii_at wr w.heap.size s pos ty hk hp h128
      have hk1 := Lib.iterAt_heap wr w.heap.size s pos (pos + 1) hk
      have hs1 := HIT.out pos pos wr hst hk
      have hmu : wr.iterPos w.heap.size = pos := by simp [World.iterPos, hk]
      generalize wr.iterAt w.heap.size s (pos + 1) = W1 at hnext hk1 hs1
      have HEX : Hid (∃ h : pos < s.size, (s[pos]'h).toNat = (s[pos]'hp).toNat) := ⟨hp, rfl⟩
      generalize (s[pos]'hp).toNat = l at hnext hl HEX
      have HMU := Lib.hid hmu
      have HK1 := Lib.hid hk1
      have HS1 := Lib.hid hs1
      have HP := Lib.hid hp
      clear h128 hmu hk1 hs1 hp hps hk hst
      rcases hl with rfl | rfl | rfl | rfl | rfl | rfl | rfl | rfl | rfl | rfl | rfl | rfl | rfl
      · go_wp2_with fail
        refine (HN.out pos W1 115 HS1.out HEX.out rfl).mono ?_
        rintro e W2 ⟨rfl, hs2, hk2⟩
        have HS2 := Lib.hid hs2
        have HK2 := Lib.hid hk2
        clear hs2 hk2
        go_wp2
        go_roundw
        case rel => exact ⟨pos + 1, HP.out, HK2.out.trans HK1.out, HS2.out⟩
        case measure =>
          have hmu2 : W2.iterPos w.heap.size = pos + 1 := by simp [World.iterPos, HK2.out.trans HK1.out]
          rw [HMU.out, hmu2]
          have := HP.out
          omega
      · go_wp2_with fail
        refine (HN.out pos W1 116 HS1.out HEX.out rfl).mono ?_
        rintro e W2 ⟨rfl, hs2, hk2⟩
        have HS2 := Lib.hid hs2
        have HK2 := Lib.hid hk2
        clear hs2 hk2
        go_wp2
        go_roundw
        case rel => exact ⟨pos + 1, HP.out, HK2.out.trans HK1.out, HS2.out⟩
        case measure =>
          have hmu2 : W2.iterPos w.heap.size = pos + 1 := by simp [World.iterPos, HK2.out.trans HK1.out]
          rw [HMU.out, hmu2]
          have := HP.out
          omega
      · go_wp2_with fail
        refine (HN.out pos W1 118 HS1.out HEX.out rfl).mono ?_
        rintro e W2 ⟨rfl, hs2, hk2⟩
        have HS2 := Lib.hid hs2
        have HK2 := Lib.hid hk2
        clear hs2 hk2
        go_wp2
        go_roundw
        case rel => exact ⟨pos + 1, HP.out, HK2.out.trans HK1.out, HS2.out⟩
        case measure =>
          have hmu2 : W2.iterPos w.heap.size = pos + 1 := by simp [World.iterPos, HK2.out.trans HK1.out]
          rw [HMU.out, hmu2]
          have := HP.out
          omega
      · go_wp2_with fail
        refine (HN.out pos W1 98 HS1.out HEX.out rfl).mono ?_
        rintro e W2 ⟨rfl, hs2, hk2⟩
        have HS2 := Lib.hid hs2
        have HK2 := Lib.hid hk2
        clear hs2 hk2
        go_wp2
        go_roundw
        case rel => exact ⟨pos + 1, HP.out, HK2.out.trans HK1.out, HS2.out⟩
        case measure =>
          have hmu2 : W2.iterPos w.heap.size = pos + 1 := by simp [World.iterPos, HK2.out.trans HK1.out]
          rw [HMU.out, hmu2]
          have := HP.out
          omega
      · go_wp2_with fail
        refine (HN.out pos W1 99 HS1.out HEX.out rfl).mono ?_
        rintro e W2 ⟨rfl, hs2, hk2⟩
        have HS2 := Lib.hid hs2
        have HK2 := Lib.hid hk2
        clear hs2 hk2
        go_wp2
        go_roundw
        case rel => exact ⟨pos + 1, HP.out, HK2.out.trans HK1.out, HS2.out⟩
        case measure =>
          have hmu2 : W2.iterPos w.heap.size = pos + 1 := by simp [World.iterPos, HK2.out.trans HK1.out]
          rw [HMU.out, hmu2]
          have := HP.out
          omega
      · go_wp2_with fail
        refine (HN.out pos W1 110 HS1.out HEX.out rfl).mono ?_
        rintro e W2 ⟨rfl, hs2, hk2⟩
        have HS2 := Lib.hid hs2
        have HK2 := Lib.hid hk2
        clear hs2 hk2
        go_wp2
        go_roundw
        case rel => exact ⟨pos + 1, HP.out, HK2.out.trans HK1.out, HS2.out⟩
        case measure =>
          have hmu2 : W2.iterPos w.heap.size = pos + 1 := by simp [World.iterPos, HK2.out.trans HK1.out]
          rw [HMU.out, hmu2]
          have := HP.out
          omega
      · go_wp2_with fail
        refine (HN.out pos W1 114 HS1.out HEX.out rfl).mono ?_
        rintro e W2 ⟨rfl, hs2, hk2⟩
        have HS2 := Lib.hid hs2
        have HK2 := Lib.hid hk2
        clear hs2 hk2
        go_wp2
        go_roundw
        case rel => exact ⟨pos + 1, HP.out, HK2.out.trans HK1.out, HS2.out⟩
        case measure =>
          have hmu2 : W2.iterPos w.heap.size = pos + 1 := by simp [World.iterPos, HK2.out.trans HK1.out]
          rw [HMU.out, hmu2]
          have := HP.out
          omega
      · go_wp2_with fail
        refine (HN.out pos W1 113 HS1.out HEX.out rfl).mono ?_
        rintro e W2 ⟨rfl, hs2, hk2⟩
        have HS2 := Lib.hid hs2
        have HK2 := Lib.hid hk2
        clear hs2 hk2
        go_wp2
        go_roundw
        case rel => exact ⟨pos + 1, HP.out, HK2.out.trans HK1.out, HS2.out⟩
        case measure =>
          have hmu2 : W2.iterPos w.heap.size = pos + 1 := by simp [World.iterPos, HK2.out.trans HK1.out]
          rw [HMU.out, hmu2]
          have := HP.out
          omega
      · go_wp2_with fail
        refine (HK.out pos W1 111 HS1.out HEX.out rfl).mono ?_
        rintro e W2 ⟨rfl, hs2, hk2⟩
        have HS2 := Lib.hid hs2
        have HK2 := Lib.hid hk2
        clear hs2 hk2
        go_wp2
        go_roundw
        case rel => exact ⟨pos + 1, HP.out, HK2.out.trans HK1.out, HS2.out⟩
        case measure =>
          have hmu2 : W2.iterPos w.heap.size = pos + 1 := by simp [World.iterPos, HK2.out.trans HK1.out]
          rw [HMU.out, hmu2]
          have := HP.out
          omega
      · go_wp2_with fail
        refine (HK.out pos W1 102 HS1.out HEX.out rfl).mono ?_
        rintro e W2 ⟨rfl, hs2, hk2⟩
        have HS2 := Lib.hid hs2
        have HK2 := Lib.hid hk2
        clear hs2 hk2
        go_wp2
        go_roundw
        case rel => exact ⟨pos + 1, HP.out, HK2.out.trans HK1.out, HS2.out⟩
        case measure =>
          have hmu2 : W2.iterPos w.heap.size = pos + 1 := by simp [World.iterPos, HK2.out.trans HK1.out]
          rw [HMU.out, hmu2]
          have := HP.out
          omega
      · go_wp2_with fail
        refine (HK.out pos W1 109 HS1.out HEX.out rfl).mono ?_
        rintro e W2 ⟨rfl, hs2, hk2⟩
        have HS2 := Lib.hid hs2
        have HK2 := Lib.hid hk2
        clear hs2 hk2
        go_wp2
        go_roundw
        case rel => exact ⟨pos + 1, HP.out, HK2.out.trans HK1.out, HS2.out⟩
        case measure =>
          have hmu2 : W2.iterPos w.heap.size = pos + 1 := by simp [World.iterPos, HK2.out.trans HK1.out]
          rw [HMU.out, hmu2]
          have := HP.out
          omega
      · go_wp2_with fail
        refine (HK.out pos W1 120 HS1.out HEX.out rfl).mono ?_
        rintro e W2 ⟨rfl, hs2, hk2⟩
        have HS2 := Lib.hid hs2
        have HK2 := Lib.hid hk2
        clear hs2 hk2
        go_wp2
        go_roundw
        case rel => exact ⟨pos + 1, HP.out, HK2.out.trans HK1.out, HS2.out⟩
        case measure =>
          have hmu2 : W2.iterPos w.heap.size = pos + 1 := by simp [World.iterPos, HK2.out.trans HK1.out]
          rw [HMU.out, hmu2]
          have := HP.out
          omega
      · go_wp2_with fail
        refine (HD.out pos W1 HS1.out HEX.out).mono ?_
        rintro e W2 ⟨rfl, hs2, hk2⟩
        have HS2 := Lib.hid hs2
        have HK2 := Lib.hid hk2
        clear hs2 hk2
        go_wp2
        go_roundw
        case rel => exact ⟨pos + 1, HP.out, HK2.out.trans HK1.out, HS2.out⟩
        case measure =>
          have hmu2 : W2.iterPos w.heap.size = pos + 1 := by simp [World.iterPos, HK2.out.trans HK1.out]
          rw [HMU.out, hmu2]
          have := HP.out
          omega
    · have hnext : ∀ ty, (Instr.next (.pointer (some ⟨w.heap.size, 0, none⟩)) true ty).run Try.prog wr = _ := fun ty => Lib.run_next_end_at wr w.heap.size s pos ty hk hp
      obtain rfl : pos = s.size := by omega
      have HS2 := Lib.hid hst
      clear hst hk hps hp
      go_wp2_with fail
      rw [Exit.noGoto_normal]
      exact bodyPost_end (results_none rfl _ _ _) rfl ⟨rfl, HS2.out⟩
end Go.Proofs.Ytdohggpajhkkhaa
