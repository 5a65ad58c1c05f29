/-
  Contracts of the document's own functions of package sha: what a block makes of the eight numbers. Condition: the slices have eight, sixty-four and sixty-four numbers.
-/
import Derived.Test.YtboaceabimlodaaDoorRefB
import Derived.StillTailTactics
import Derived.Outline
namespace Go.Proofs.YtboaceabimlodaaDoor
open Go.RowKit
theorem not32 (e : Int) (h0 : 0 ≤ e) (h1 : e ≤ 4294967295) : bits .xor .u32 IntKind.u32.max e = 4294967295 - e := by
  obtain ⟨n, rfl⟩ := Int.eq_ofNat_of_zero_le h0
  have e1 : bits .xor .u32 IntKind.u32.max (n : Int) = IntKind.u32.wrap ((BitVec.ofInt 32 (4294967295 : Int) ^^^ BitVec.ofInt 32 (n : Int)).toNat : Int) := rfl
  have e2 : BitVec.ofInt 32 (4294967295 : Int) = BitVec.allOnes 32 := by decide
  rw [e1, e2, BitVec.allOnes_xor, BitVec.toNat_not, BitVec.ofInt_natCast, BitVec.toNat_ofNat, IntKind.wrap_u32]
  omega
theorem add5 (a b c d e : Int) : IntKind.u32.wrap (IntKind.u32.wrap (IntKind.u32.wrap (IntKind.u32.wrap (a + b) + c) + d) + e) = (a + b + c + d + e) % 4294967296 := by
  simp only [IntKind.wrap_u32]; omega
theorem fin_lit (X : List Int) (s : St) : fin X s.list 8 = [(s.a + nth X 0) % 4294967296, (s.b + nth X 1) % 4294967296, (s.c + nth X 2) % 4294967296, (s.d + nth X 3) % 4294967296, (s.e + nth X 4) % 4294967296, (s.f + nth X 5) % 4294967296, (s.g + nth X 6) % 4294967296, (s.h + nth X 7) % 4294967296] := by
  simp [fin, List.range_succ, nth, St.list]
theorem ownk_lit (xs : List Int) (w : World) (cs : Array Value) (hcs : cs = ucells xs) (n : Nat) (hn : n = xs.length) (hm : n ≤ maxLen) : OwnK .u32 56 (w.alloc (.cells cs 56)) w.heap.size (.slice (some ⟨w.heap.size, 0, none⟩) n n) xs := by
  subst hcs hn
  exact ⟨by simp, .inr ⟨w.heap.size, xs.length, ucells xs, rfl, Nat.le_refl _, heap_alloc_new w _, Nat.le_refl _, hm, by simp [ucells], by rw [ucells, List.take_of_length_le (by simp)]⟩⟩
theorem OwnK.base {k : IntKind} {E : TypeId} {w : World} {b b' : Nat} {v : Value} {xs : List Int} (h : OwnK k E w b v xs) (hb : b' ≤ b) : OwnK k E w b' v xs := by
  obtain ⟨hl, h⟩ := h
  refine ⟨hl, ?_⟩
  rcases h with h | ⟨g, cap', cur, e1, e2, e3⟩
  · exact .inl h
  · exact .inr ⟨g, cap', cur, e1, Nat.le_trans hb e2, e3⟩
set_option maxRecDepth 100000 in
set_option maxHeartbeats 4000000 in
theorem takeD (X W K : List Int) (gx cx gw cw gk ck : Nat) (uX : U32 X) (uW : U32 W) (uK : U32 K) (w : World)
    (cX : ∀ i, i < 8 → w.cell? ⟨gx, i, none⟩ = some (.int .u32 (nth X i))) (cW : ∀ i, i < 64 → w.cell? ⟨gw, i, none⟩ = some (.int .u32 (nth W i))) (cK : ∀ i, i < 64 → w.cell? ⟨gk, i, none⟩ = some (.int .u32 (nth K i))) :
    Calls Tryd.prog 27 #[.slice (some ⟨gx, 0, none⟩) 8 cx, .slice (some ⟨gw, 0, none⟩) 64 cw, .slice (some ⟨gk, 0, none⟩) 64 ck] w (WordsP w (fin X (sts K W (toSt X) 64).list 8)) := by
  have x0 := cX 0 (by omega)
  have x1 := cX 1 (by omega)
  have x2 := cX 2 (by omega)
  have x3 := cX 3 (by omega)
  have x4 := cX 4 (by omega)
  have x5 := cX 5 (by omega)
  have x6 := cX 6 (by omega)
  have x7 := cX 7 (by omega)
  have lx : gx < w.heap.size := World.block_lt_of_cell? w _ x0
  have lw : gw < w.heap.size := World.block_lt_of_cell? w _ (cW 0 (by omega))
  have lk : gk < w.heap.size := World.block_lt_of_cell? w _ (cK 0 (by omega))
  have okX : (toSt X).ok := ⟨uX.nth 0, uX.nth 1, uX.nth 2, uX.nth 3, uX.nth 4, uX.nth 5, uX.nth 6, uX.nth 7⟩
  have CX := Lib.hid cX
  have CW := Lib.hid cW
  have CK := Lib.hid cK
  have UW := Lib.hid uW
  have UK := Lib.hid uK
  have OKX := Lib.hid okX
  have LX := Lib.hid lx
  have LW := Lib.hid lw
  have LK := Lib.hid lk
  clear cX cW cK uX uW uK okX lx lw lk
  go_enter Tryd.func27, Tryd.ntmps27
  go_wp2_with fail
  go_quiet (fail)
  obtain ⟨W0, hW⟩ : ∃ W0, W0 = w.drewN nq := ⟨_, rfl⟩
  rw [← hW]
  have HB0 : Hid (Below w.heap.size w W0) := by rw [hW]; exact (Below.refl _ _).trans ⟨rfl, rfl, rfl, Nat.le_refl _, fun _ _ => rfl⟩
  clear hW x0 x1 x2 x3 x4 x5 x6 x7
  go_wp2_with fail
  go_loopw [7, 8, 9, 10, 11, 12, 13, 14, 15, 16, 17, 18] (fun va vb vc vd ve vf vg vh vi _ _ _ wr => ∃ (k : Nat) (s : St), k ≤ 64 ∧ vi = .int .i64 k ∧ s = sts K W (toSt X) k ∧ va = .int .u32 s.a ∧ vb = .int .u32 s.b ∧ vc = .int .u32 s.c ∧ vd = .int .u32 s.d ∧ ve = .int .u32 s.e ∧ vf = .int .u32 s.f ∧ vg = .int .u32 s.g ∧ vh = .int .u32 s.h ∧ Below w.heap.size w wr) (fun _ _ _ _ _ _ _ _ vi _ _ _ _ => 64 - (intOf vi).toNat)
  case atStart => exact ⟨0, toSt X, by omega, rfl, rfl, rfl, rfl, rfl, rfl, rfl, rfl, rfl, rfl, HB0.out⟩
  case round =>
    clear HB0
    obtain ⟨k, s, hk, rfl, hs, rfl, rfl, rfl, rfl, rfl, rfl, rfl, rfl, hb⟩ := hrel
    have hok : s.ok := by rw [hs]; exact sts_ok K W _ OKX.out k
    by_cases hlt : k < 64
    · have hnext : step s (nth K k) (nth W k) = sts K W (toSt X) (k + 1) := by rw [hs]; rfl
      have ck0 : wr.cell? ⟨gk, k, none⟩ = some (.int .u32 (nth K k)) := by rw [hb.cell (p := ⟨gk, k, none⟩) LK.out]; exact CK.out k hlt
      have cw0 : wr.cell? ⟨gw, k, none⟩ = some (.int .u32 (nth W k)) := by rw [hb.cell (p := ⟨gw, k, none⟩) LW.out]; exact CW.out k hlt
      obtain ⟨⟨a0, a1⟩, ⟨b0, b1⟩, ⟨c0, c1⟩, ⟨d0, d1⟩, ⟨e0, e1⟩, ⟨f0, f1⟩, ⟨g0, g1⟩, ⟨h0, h1⟩⟩ := hok
      have HN := Lib.hid hnext
      have HB := Lib.hid hb
      have E1 : Hid (∀ x y z u v : Int, IntKind.u32.wrap (IntKind.u32.wrap (IntKind.u32.wrap (IntKind.u32.wrap (x + y) + z) + u) + v) = (x + y + z + u + v) % 4294967296) := add5
      have NT := Lib.hid (not32 s.e e0 e1)
      have kl : (k : Int) < 64 := by omega
      clear hnext hb hs
      obtain ⟨a, b, c, d, e, f, g, h⟩ := s
      simp only at *
      obtain ⟨kk, hkk⟩ : ∃ kk, kk = nth K k := ⟨_, rfl⟩
      obtain ⟨ww, hww⟩ : ∃ ww, ww = nth W k := ⟨_, rfl⟩
      rw [← hkk] at ck0 HN
      rw [← hww] at cw0 HN
      clear hkk hww
      go_wp2_with fail
      go_quiet ((go_at_call 34; exact Calls.quiet_of_same (dturn _ e0 e1 _ (by decide) (by decide) _)))
      obtain ⟨T1, hT1⟩ : ∃ T, T = (h + bs1 e + chs e f g + kk + ww) % 4294967296 := ⟨_, rfl⟩
      have hT : ((h + bits .xor .u32 (bits .xor .u32 (rot 6 e) (rot 11 e)) (rot 25 e) + bits .xor .u32 (bits .and .u32 e f) (bits .and .u32 (4294967295 - e) g) + kk) % 4294967296 + ww) % 4294967296 = T1 := by
        rw [hT1, bs1, chs, NT.out]; omega
      have HA : Hid ((step ⟨a, b, c, d, e, f, g, h⟩ kk ww).a = (T1 + (bits .xor .u32 (bits .xor .u32 (rot 2 a) (rot 13 a)) (rot 22 a) + bits .xor .u32 (bits .xor .u32 (bits .and .u32 a b) (bits .and .u32 a c)) (bits .and .u32 b c)) % 4294967296) % 4294967296) := by
        show _ = _
        rw [hT1]; rfl
      have HE : Hid ((step ⟨a, b, c, d, e, f, g, h⟩ kk ww).e = (d + T1) % 4294967296) := by
        show _ = _
        rw [hT1]; rfl
      have t0 : 0 ≤ T1 := by omega
      have t1 : T1 ≤ 4294967295 := by omega
      obtain ⟨W1, hW⟩ : ∃ W1, W1 = wr.drewN nq := ⟨_, rfl⟩
      rw [← hW]
      have HB1 : Hid (Below w.heap.size w W1) := by rw [hW]; exact HB.out.trans ⟨rfl, rfl, rfl, Nat.le_refl _, fun _ _ => rfl⟩
      clear hW hT1 ck0 cw0 NT E1 HB
      go_wp2_with fail
      rw [hT]
      clear hT
      refine (dturn a a0 a1 _ (by decide) (by decide) _).mono ?_
      rintro e' w' ⟨rfl, rfl⟩
      go_wp2_with fail
      refine (dturn a a0 a1 _ (by decide) (by decide) _).mono ?_
      rintro e' w' ⟨rfl, rfl⟩
      go_wp2_with fail
      refine (dturn a a0 a1 _ (by decide) (by decide) _).mono ?_
      rintro e' w' ⟨rfl, rfl⟩
      go_wp2_with fail
      go_roundw
      case rel => exact ⟨k + 1, step ⟨a, b, c, d, e, f, g, h⟩ kk ww, by omega, by go_num, HN.out, by rw [HA.out], rfl, rfl, rfl, by rw [HE.out], rfl, rfl, rfl, HB1.out⟩
      case measure => simp [intOf]; omega
    · have hk64 : 64 ≤ k := by omega
      have he : s = sts K W (toSt X) 64 := by rw [hs]; congr 1; omega
      have c0 := CX.out 0 (by omega)
      have c1 := CX.out 1 (by omega)
      have c2 := CX.out 2 (by omega)
      have c3 := CX.out 3 (by omega)
      have c4 := CX.out 4 (by omega)
      have c5 := CX.out 5 (by omega)
      have c6 := CX.out 6 (by omega)
      have c7 := CX.out 7 (by omega)
      have hbc : ∀ i, wr.cell? ⟨gx, i, none⟩ = w.cell? ⟨gx, i, none⟩ := fun i => hb.cell (p := ⟨gx, i, none⟩) LX.out
      rw [← hbc] at c0 c1 c2 c3 c4 c5 c6 c7
      have HB := Lib.hid hb
      have HEE := Lib.hid he
      have HF := Lib.hid (fin_lit X s)
      have kl : ¬ (k : Int) < 64 := by omega
      clear hbc hb he hs hok
      obtain ⟨a, b, c, d, e, f, g, h⟩ := s
      simp only at *
      go_wp2_with fail
      go_still_tail 40, (by kernel_rfl)
      change wpList _ _ _ _ _ wr.drew
      obtain ⟨W2, hW⟩ : ∃ W2, W2 = wr.drew := ⟨_, rfl⟩
      rw [← hW]
      have HB2 : Hid (Below w.heap.size w W2) := by rw [hW]; exact HB.out.trans ⟨rfl, rfl, rfl, Nat.le_refl _, fun _ _ => rfl⟩
      clear hW c0 c1 c2 c3 c4 c5 c6 c7 HB
      go_wp2_with fail
      go_ret
      unfold WordsP
      rw [fin_len, ← HEE.out]
      exact ⟨_, 8, rfl, (ownk_lit _ W2 _ (by rw [HF.out]; simp [ucells, Int.add_comm]) 8 (by rw [fin_len]) (by decide)).base HB2.out.size, HB2.out.alloc HB2.out.size _⟩
end Go.Proofs.YtboaceabimlodaaDoor
