/-
  The contract of the document's Encode. Condition: the value reads as a reply, with data of at most 5000 bytes.
-/
import Derived.Test.YtabopcfhonkecaaRpD
namespace Go.Proofs.Ytabopcfhonkecaa
open Go.RowKit
theorem may_no {p : Ry} (h : mayB p = false) : p.e < 0 ∨ 65535 < p.e ∨ p.n < 0 ∨ 2147483647 < p.n ∨ 4096 < p.d.length := by
  unfold mayB at h
  simp only [Bool.and_eq_false_iff, decide_eq_false_iff_not] at h
  omega
set_option maxRecDepth 100000 in
set_option maxHeartbeats 4000000 in
theorem encodeD {p : Ry} (h5 : p.d.length ≤ 5000) (dv : Value) (w : World) (hd : Sees w dv p.d) : Calls Try.prog 9 #[.agg (rc p dv).toArray] w (EncP w p) := by
  obtain ⟨x, cp, rfl, h63⟩ := hd.form
  obtain ⟨C, hC⟩ : ∃ C, C = (rc p (.slice x p.d.length cp)).toArray := ⟨_, rfl⟩
  rw [← hC]
  obtain ⟨w1, hw1⟩ : ∃ w1, w1 = w.alloc (.cells C 30) := ⟨_, rfl⟩
  have b1 : Below w.heap.size w w1 := by rw [hw1]; exact (Below.refl _ _).alloc (Nat.le_refl _) _
  have g1 : w1.heap[w.heap.size]? = some (.cells C 30 (0, 0)) := by rw [hw1]; exact heap_alloc_new w _
  have CE : Hid (∀ W : World, W.heap[w.heap.size]? = some (.cells C 30 (0, 0)) → W.cell? ⟨w.heap.size, 0, none⟩ = some (.int .i64 p.e) ∧ W.cell? ⟨w.heap.size, 1, none⟩ = some (.int .i64 p.n) ∧ W.cell? ⟨w.heap.size, 2, none⟩ = some (.slice x p.d.length cp)) := fun W h => row_rc (by rw [hC] at h; exact h)
  obtain ⟨c0, c1, c2⟩ := CE.out w1 g1
  have HW1 := Lib.hid hw1
  have B1 := Lib.hid b1
  have G1 := Lib.hid g1
  have k5 : ((p.d.length : Nat) : Int) ≤ 5000 := by omega
  cases hr : mayB p with
  | false =>
    have NO := enc_no (w := w) hr
    have hn := may_no hr
    clear hw1 b1 g1 hd hC CE hr h5
    generalize EncP w p = PP at NO ⊢
    generalize p.d.length = l at *
    generalize p.e = pe at *
    generalize p.n = pn at *
    by_cases h0 : pe < 0
    · clear hn
      go_enter Try.func9, Try.ntmps9
      go_upto_region 1 with (fail)
      rw [← HW1.out]
      go_wp2
      exact NO.out _ B1.out
    · have j0 : 0 ≤ pe := by omega
      by_cases h1 : 65535 < pe
      · clear hn
        go_enter Try.func9, Try.ntmps9
        go_upto_region 1 with (fail)
        rw [← HW1.out]
        go_wp2
        exact NO.out _ B1.out
      · have j1 : pe ≤ 65535 := by omega
        by_cases h2 : pn < 0
        · clear hn
          go_enter Try.func9, Try.ntmps9
          go_upto_region 1 with (fail)
          rw [← HW1.out]
          go_wp2
          exact NO.out _ B1.out
        · have j2 : 0 ≤ pn := by omega
          by_cases h3 : 2147483647 < pn
          · clear hn
            go_enter Try.func9, Try.ntmps9
            go_upto_region 1 with (fail)
            rw [← HW1.out]
            go_wp2
            exact NO.out _ B1.out
          · have j3 : pn ≤ 2147483647 := by omega
            have h4 : (4096 : Int) < (l : Int) := by omega
            have k4 : decide (4096 < l) = true := decide_eq_true (by omega)
            clear hn
            go_enter Try.func9, Try.ntmps9
            go_upto_region 1 with (fail)
            rw [← HW1.out]
            go_wp2
            exact NO.out _ B1.out
  | true =>
    obtain ⟨e0, e1, n0, n1, l1⟩ := may_bd hr
    have YES := enc_yes (w := w) hr
    have P2 : Hid (∀ W, Calls Try.prog 23 #[.int .u64 p.e, .int .i64 2] W (OwnP W (be 2 p.e))) := fun W => octetPuts.refBytes2 _ e0 (by omega) W
    have P4 : Hid (∀ W, Calls Try.prog 23 #[.int .u64 p.n, .int .i64 4] W (OwnP W (be 4 p.n))) := fun W => octetPuts.refBytes4 _ n0 (by omega) W
    have WU1 : IntKind.u64.wrap p.e = p.e := by show p.e % 18446744073709551616 = p.e; omega
    have WU2 : IntKind.u64.wrap p.n = p.n := by show p.n % 18446744073709551616 = p.n; omega
    have LE : Hid (encL p = (be 2 p.e ++ be 4 p.n) ++ p.d) := by show _ = _; rw [List.append_assoc]; rfl
    have HDD : Hid (∀ W, Below w.heap.size w W → Sees W (.slice x p.d.length cp) p.d) := fun W h => hd.below h
    have j4 : decide (4096 < p.d.length) = false := decide_eq_false (by omega)
    have j5 : ((p.d.length : Nat) : Int) ≤ 4096 := by omega
    have hb2 : (be 2 p.e).length = 2 := be_len 2 _
    have hb4 : (be 4 p.n).length = 4 := be_len 4 _
    have L5 := Lib.hid h5
    clear hw1 b1 g1 hd hC hr h5 l1
    generalize EncP w p = PP at YES ⊢
    generalize encL p = L at YES LE
    generalize be 2 p.e = b2 at P2 LE hb2
    generalize be 4 p.n = b4 at P4 LE hb4
    have HB2 := Lib.hid hb2
    have HB4 := Lib.hid hb4
    clear hb2 hb4
    generalize p.e = pe at *
    generalize p.n = pn at *
    go_enter Try.func9, Try.ntmps9
    go_upto_region 1 with (fail)
    rw [← HW1.out]
    go_upto_region 3 with (fail)
    go_wp2_with fail
    clear c0 c1 c2
    refine (P2.out _).mono ?_
    rintro e w2 ⟨x2, cp2, rfl, ho, hb⟩
    have B2 := Lib.hid (B1.out.trans (hb.mono B1.out.size))
    have G2 := Lib.hid ((hb.block _ (blk_lt G1.out)).trans G1.out)
    have O2 := Lib.hid ho
    have Z2 : Hid (w.heap.size ≤ w1.heap.size) := B1.out.size
    have Z12 : Hid (w1.heap.size ≤ w2.heap.size) := hb.size
    have c1 := (CE.out w2 G2.out).2.1
    clear ho hb G1 B1
    go_upto_region 4 with (fail)
    go_wp2_with fail
    clear c1
    refine (P4.out _).mono ?_
    rintro e w3 ⟨x3, cp3, rfl, ho, hb⟩
    have B3 := Lib.hid (B2.out.trans (hb.mono B2.out.size))
    have G3 := Lib.hid ((hb.block _ (blk_lt G2.out)).trans G2.out)
    have O3 := Lib.hid (O2.out.below hb)
    have Z3 : Hid (w1.heap.size ≤ w3.heap.size) := Nat.le_trans Z12.out hb.size
    obtain ⟨x4, cp4, w4, hr4, ho4, _, hb4⟩ := app O3.out ho.sees (by have := HB2.out; have := HB4.out; omega) Z3.out
    have B4 := Lib.hid (B3.out.trans (hb4.mono Z2.out))
    have G4 := Lib.hid ((hb4.block _ (by rw [HW1.out]; simp)).trans G3.out)
    have O4 := Lib.hid ho4
    have HR4 := Lib.hid hr4
    have Z34 : Hid (w3.heap.size ≤ w4.heap.size) := hb4.size
    clear ho hb hr4 ho4 hb4 O2 B2 G2
    have c2 := (CE.out w4 G4.out).2.2
    go_upto_region 5 with (first | (at_builtin; refine wpList_app rfl (.tmp 33) (.tmp 37) rfl rfl rfl rfl HR4.out ?_))
    have S4 := HDD.out w4 B4.out
    obtain ⟨x5, cp5, w5, hr5, ho5, _, hb5⟩ := app O4.out S4 (by have := HB2.out; have := HB4.out; have := L5.out; simp only [List.length_append]; omega) (Nat.le_trans Z3.out Z34.out)
    have B5 := Lib.hid (B4.out.trans (hb5.mono Z2.out))
    have FIN : Hid (PP (.returned (.tuple #[.slice x5 (b2.length + b4.length + p.d.length) cp5, .int .i64 0])) w5) := by
      have h := YES.out w5 x5 cp5 B5.out
      rw [LE.out, List.length_append, List.length_append] at h
      rw [List.length_append] at ho5
      exact h ho5.sees
    rw [List.length_append] at hr5
    have HR5 := Lib.hid hr5
    clear ho5 hb5 hr5 S4 O4
    go_wp2_with (first | (at_builtin; refine wpList_app rfl (.tmp 39) (.tmp 41) rfl rfl rfl rfl HR5.out ?_))
    exact FIN.out
end Go.Proofs.Ytabopcfhonkecaa
