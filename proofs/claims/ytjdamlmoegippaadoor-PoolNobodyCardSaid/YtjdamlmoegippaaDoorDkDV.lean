/-
  Contract: disk.Tamper. Condition: the disk lies in memory as said.
-/
import Derived.Test.YtjdamlmoegippaaDoorDkDT
import Derived.Deep.RegionHeld3
namespace Go.Proofs.YtjdamlmoegippaaDoor.dk
open Go.ChangeShapes Go.WideShapes Go.ChangeAt Go.RowKit
/-- One sector is sure to have a byte. -/
def putS (su : Nat → Option Nat) (s y : Nat) : Nat → Option Nat := fun j => if j = s then some y else su j
section
variable {w w' : World} {g N sb hb : Nat} {wv : Value} {su : Nat → Option Nat} {ws : List (Nat × Nat)} {rg : List Value} {c p : Int} {d : Bool} {K : Nat}
theorem DK.sureset (h : DK w g N sb hb wv su ws rg c p d K) {s y : Nat} {v : Value} (hs : s < 65536) (hv : TX w v (tx y)) (hy : y < 256) (hK : K < 1000000) :
    ∃ w'', (Instr.mapUpdate 90 (.map (some sb)) (.int .u32 s) v).run Tryd.prog w = .ok () w'' ∧ DK w'' g N sb hb wv (putS su s y) ws rg c p d (K + 1) ∧ Mods (fun k => k = sb) w w'' := by
  obtain ⟨n1, f1, m1, b1, s1⟩ := h.sure
  obtain ⟨n2, f2, m2, b2, s2⟩ := h.shown
  obtain ⟨vs, r, q⟩ := h.waits
  obtain ⟨k1, k2, k3, k4⟩ := h.kinds
  obtain ⟨w'', hst, m27, hm7, hz7⟩ := m1.store keyed23 Tryd.underlying90 (by unfold maxLen; omega) (v := v) (key23 s (by omega))
  have kA : ∀ b cs, w.heap[b]? = some (.cells cs 5 (0, 0)) → ¬ b = sb := fun b cs hb' e => k1 b cs hb' (.inr (.inl e))
  refine ⟨w'', hst, ⟨h.n1, h.n2, (hm7.block g h.lt k2).trans h.row, h.len, ⟨_, _, m27, ?_, SM_upd (s1.mods hm7 kA) (hv.mods hm7 kA) hy (by simp [putS]) (fun j hj => by simp [putS, hj])⟩, ⟨n2, f2, m2.mods hm7 h.ne.symm, by omega, s2.mods hm7 kA⟩, ⟨vs, r.mods hm7 (fun k hk => (k4 k hk).2.1), WS.mods hm7 kA q⟩, h.ne, by omega⟩, hm7⟩
  split <;> omega
set_option maxRecDepth 100000 in
set_option maxHeartbeats 4000000 in
theorem tamperD (h : DK w g N sb hb wv su ws rg c p d K) (s y : Nat) (v : Value) (hs : s < N) (hv : TX w v (tx y)) (hy : y < 256) (hK : K < 1000000) :
    Calls Tryd.prog 16 #[.pointer (some ⟨g, 0, none⟩), .int .u32 s, v] w (DkP w g N sb hb wv (putS su s y) (rest s ws) rg c p d (K + 1) (.int .i64 0)) := by
  have n2 := h.n2
  have Hs := Lib.hid (hasD h s)
  rw [if_pos hs] at Hs
  obtain ⟨b, rfl, hb0⟩ := hv
  rw [tx_len]
  have F := Lib.hid (fitsD (some ⟨b, 0, none⟩) 512 512 (by omega) w)
  have O := Lib.hid (or2 0 0 w)
  obtain ⟨w1, hw1⟩ : ∃ w1, w1 = w.alloc (.cells #[.int .i64 0, .int .i64 0] 34) := ⟨_, rfl⟩
  have hbw1 : Below w.heap.size w w1 := by rw [hw1]; exact (Below.refl _ _).alloc (Nat.le_refl _) _
  have h1 := h.below hbw1
  have T1 : Hid (TX w1 (.slice (some ⟨b, 0, none⟩) 512 512) (tx y)) := by
    have : TX w (.slice (some ⟨b, 0, none⟩) 512 512) (tx y) := ⟨b, by rw [tx_len], hb0⟩
    exact this.below hbw1
  have FG := Lib.hid (forgetD h1 s hs)
  have HB1 := Lib.hid hbw1
  have D1 := Lib.hid h1
  rw [← hw1] at O
  have HW1 := Lib.hid hw1
  have PC : Hid (K < 1000000 ∧ y < 256 ∧ s < 65536) := ⟨hK, hy, by omega⟩
  clear h hb0 hw1 hbw1 h1 hK hy
  go_enter Tryd.func16, Tryd.ntmps16
  go_wp2_with fail
  refine Hs.out.mono ?_
  rintro e w' ⟨rfl, rfl⟩
  go_wp2_with fail
  refine F.out.mono ?_
  rintro e w' ⟨rfl, rfl⟩
  go_wp2_with fail
  rw [← HW1.out]
  refine O.out.mono ?_
  rintro e w' ⟨rfl, rfl⟩
  go_wp2_with fail
  refine FG.out.mono ?_
  rintro e w2 ⟨v2, rfl, d2, m2, an⟩
  have kb := D1.out.kinds
  have T2 : Hid (TX w2.drew (.slice (some ⟨b, 0, none⟩) 512 512) (tx y)) := (T1.out.mods m2 kb.1).heap rfl
  have D2 : Hid (DK w2.drew g N sb hb v2 su (rest s ws) rg c p d K) := d2.heap rfl
  have e1 : w2.drew.cell? ⟨g, 1, none⟩ = some (.map (some sb)) := d2.c1
  have M2 : Hid (Mods (Dt g sb hb wv) w w2.drew) := ((Mods.of_below HB1.out (S := Dt g sb hb wv)).trans m2 (fun _ h => .inl h)).trans (Mods.of_below (Below.refl _ _).drew (S := fun _ => False)) (fun _ h => .inl (by cases h))
  have AN : Hid (Anew w wv v2) := fun j hj => by
    rcases an j hj with h | h
    · exact .inl h
    · exact .inr (Nat.le_trans HB1.out.size h)
  clear d2 m2 an kb
  go_wp2_with fail
  go_region_held3 (fun W => W.cell? ⟨g, 1, none⟩ = some (.map (some sb))) (go_keep)
    (first | (go_at_call 40; refine (copiedD T2.out).mono ?_; rintro e w3 ⟨rfl, hw3⟩; have HW3 := Lib.hid hw3; have BB : Hid (Below w2.drew.heap.size w2.drew w3) := (by show Below _ _ _; rw [hw3]; exact (Below.refl _ _).alloc (Nat.le_refl _) _); have c3 := (D2.out.below BB.out).c1; have TT : Hid (TX w3 (.slice (some ⟨w2.heap.size, 0, none⟩) 512 512) (tx y)) := (by show TX _ _ _; rw [hw3]; exact ⟨w2.heap.size, by rw [tx_len], heap_alloc_new _ _⟩); obtain ⟨w4, st4, d4, m4⟩ := (D2.out.below BB.out).sureset PC.out.2.2 TT.out PC.out.2.1 PC.out.1; have D4 := Lib.hid d4; have M4 := Lib.hid m4; have g4 := d4.c1; clear hw3 d4 m4))
  go_wp2_with fail
  go_ret
  exact ⟨_, rfl, D4.out, (M2.out.trans (Mods.of_below BB.out (S := fun _ => False)) (fun _ h => .inl (by cases h))).trans M4.out (fun _ h => .inl (.inr (.inl h))), AN.out⟩
end
end Go.Proofs.YtjdamlmoegippaaDoor.dk
