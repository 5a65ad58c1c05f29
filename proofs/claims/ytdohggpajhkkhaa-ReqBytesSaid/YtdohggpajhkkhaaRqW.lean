/-
  The contract of the document's Right. Condition: the value reads as a request, with data of at most 10000 bytes.
-/
import Derived.Test.YtdohggpajhkkhaaRqV
namespace Go.Proofs.Ytdohggpajhkkhaa
open Go.RowKit
def wN (i : Nat) : Nat := if i = 1 ∨ i = 2 ∨ i = 5 then 1 else 2
theorem widthN (k : Nat) (hk : k < 8) (w : World) : Calls Try.prog 23 #[.int .i64 k] w fun e w' => e = .returned (.int .i64 (wN k : Nat)) ∧ w = w' :=
  (widthC k hk w).mono fun e w' ⟨h1, h2⟩ => ⟨by rw [h1]; unfold wN; split <;> rfl, h2⟩
theorem wN_cases (i : Nat) : wN i = 1 ∨ wN i = 2 := by unfold wN; split <;> simp
def mostN (k : Int) (i : Nat) : Int := if (amB (nA k) i || amB (nB k) i) = true then (if wN i = 1 then 255 else 65535) else 0
def nOk (p : Rq) (i : Nat) : Bool := decide (0 ≤ numA p i) && decide (numA p i ≤ mostN p.k i)
def kOk (p : Rq) (i : Nat) : Bool := amB (nK p.k) i || decide (keyA p i = z32)
def refR (p : Rq) : Bool := kindB p.k && (cntB p && ((List.range 8).all (nOk p) && (List.range 4).all (kOk p)))
theorem nums_le (k : Int) : (nA k).length ≤ 8 ∧ (nK k).length ≤ 8 ∧ (nB k).length ≤ 8 := by
  cases hb : kindB k with
  | false => obtain ⟨e1, e2, e3⟩ := nums_no hb; rw [e1, e2, e3]; simp
  | true => rcases kind_cases hb with rfl | rfl | rfl | rfl | rfl | rfl | rfl | rfl | rfl | rfl | rfl | rfl | rfl | rfl | rfl | rfl <;> decide
theorem all_no {f : Nat → Bool} {n j : Nat} (hj : j < n) (h : f j = false) : (List.range n).all f = false := by
  rw [Bool.eq_false_iff]
  intro e
  rw [List.all_eq_true] at e
  rw [e j (List.mem_range.2 hj)] at h
  cases h
theorem all_yes {f : Nat → Bool} {n : Nat} (h : ∀ m, m < n → f m = true) : (List.range n).all f = true := by
  rw [List.all_eq_true]
  intro x hx
  exact h x (List.mem_range.1 hx)
theorem nOk_cases (p : Rq) (i : Nat) (M : Int) (hM : mostN p.k i = M) : (numA p i < 0 → nOk p i = false) ∧ (¬ numA p i < 0 → M < numA p i → nOk p i = false) ∧ (¬ numA p i < 0 → ¬ M < numA p i → nOk p i = true) := by
  unfold nOk
  rw [hM]
  refine ⟨fun h => ?_, fun h1 h2 => ?_, fun h1 h2 => ?_⟩
  · rw [decide_eq_false (by omega)]; rfl
  · rw [decide_eq_false (p := numA p i ≤ M) (by omega)]; simp
  · rw [decide_eq_true (by omega), decide_eq_true (by omega)]; rfl
set_option maxRecDepth 100000 in
set_option maxHeartbeats 4000000 in
theorem rightD {p : Rq} (hp : RQ p) (dv : Value) (w : World) (hd : Sees w dv p.d) : Calls Try.prog 16 #[.agg (rc p dv).toArray] w fun e w' => e = .returned (.bool (refR p)) ∧ Below w.heap.size w w' := by
  obtain ⟨x, cap, rfl, hx63⟩ := hd.form
  obtain ⟨C, hC⟩ : ∃ C, C = (rc p (.slice x p.d.length cap)).toArray := ⟨_, rfl⟩
  have ic := i35 hp (.slice x p.d.length cap)
  obtain ⟨w1, hw1⟩ : ∃ w1, w1 = w.alloc (.cells (rc p (.slice x p.d.length cap)).toArray 35) := ⟨_, rfl⟩
  have b1 : Below w.heap.size w w1 := by rw [hw1]; exact (Below.refl _ _).alloc (Nat.le_refl _) _
  have g1 : w1.heap[w.heap.size]? = some (.cells (rc p (.slice x p.d.length cap)).toArray 35 (0, 0)) := by rw [hw1]; exact heap_alloc_new w _
  obtain ⟨ck, cn, cd⟩ := row35 hp g1
  have c5 : w1.cell? ⟨w.heap.size, 5, none⟩ = some (.int .i64 p.c) := cn 4 (by omega)
  have KEYS := Lib.hid (fun i hi => key35 hp g1 i hi)
  rw [← hC] at ic g1 hw1 ⊢
  have IC := Lib.hid ic
  have G1 := Lib.hid g1
  have B1 := Lib.hid b1
  have HW1 := Lib.hid hw1
  have HC := Lib.hid hC
  have hd10 := hp.d
  have CT : Hid (∀ W, Below w.heap.size w W → Calls Try.prog 31 #[.agg C] W fun e w' => e = .returned (.bool (cntB p)) ∧ Below W.heap.size W w') := fun W h => by rw [HC.out]; exact countsC hp _ W (hd.below h)
  have RW : Hid (∀ W : World, W.heap[w.heap.size]? = some (.cells C 35 (0, 0)) → W.cell? ⟨w.heap.size, 0, none⟩ = some (.int .i64 p.k) ∧ ∀ i, i < 8 → W.cell? ⟨w.heap.size, 1 + i, none⟩ = some (.int .i64 (numA p i))) := fun W h => by rw [HC.out] at h; exact ⟨(row35 hp h).1, (row35 hp h).2.1⟩
  have RK : Hid (∀ W : World, W.heap[w.heap.size]? = some (.cells C 35 (0, 0)) → ∀ i, i < 4 → k32 (keyA p i) ∧ W.rangeAt w.heap.size (9 + 32 * i) (kb (keyA p i))) := fun W h i hi => by rw [HC.out] at h; exact key35 hp h i hi
  have NM : Hid (∀ W : World, Calls Try.prog 21 #[.int .i64 p.k] W (NumsP W p.k)) := fun W => numsC p.k W
  obtain ⟨la, lk, lb⟩ := nums_le p.k
  have LA := Lib.hid la
  have LK := Lib.hid lk
  have LB := Lib.hid lb
  have MN := Lib.hid (fun i => nOk_cases p i)
  have NB : Hid (∀ j, j < 8 → nOk p j = false → refR p = false) := fun j hj h => by unfold refR; rw [all_no hj h]; simp
  have KB : Hid (∀ j, j < 4 → kOk p j = false → refR p = false) := fun j hj h => by unfold refR; rw [all_no hj h]; simp
  have OK : Hid (kindB p.k = true → cntB p = true → (∀ m, m < 8 → nOk p m = true) → (∀ m, m < 4 → kOk p m = true) → refR p = true) := fun h1 h2 h3 h4 => by unfold refR; rw [h1, h2, all_yes h3, all_yes h4]; rfl
  have NK : Hid (kindB p.k = false → refR p = false) := fun h => by unfold refR; rw [h]; rfl
  have NC : Hid (cntB p = false → refR p = false) := fun h => by unfold refR; rw [h]; simp
  have ck0 := ck
  clear hC hw1 g1 b1 ic hd hx63 cn cd c5 la lk lb KEYS ck0
  clear hd10
  generalize hRR : refR p = rr at *
  clear hRR
  go_enter Try.func16, Try.ntmps16
  go_wp2_with (rw [← HW1.out])
  refine (NM.out _).mono ?_
  rintro e w2 ⟨va, vk, vb, rfl, sa, sk, sb, hb⟩
  obtain ⟨xa, ca, rfl⟩ := sa.form
  obtain ⟨xk, kc, rfl⟩ := sk.form
  obtain ⟨xb, cb, rfl⟩ := sb.form
  have B2 := Lib.hid (B1.out.trans (hb.mono B1.out.size))
  have G2 := Lib.hid ((hb.block _ (blk_lt G1.out)).trans G1.out)
  have SA := Lib.hid sa
  have SK := Lib.hid sk
  have SB := Lib.hid sb
  clear ck hb sa sk sb G1 B1 NM
  have ck := (RW.out w2 G2.out).1
  cases hkb : kindB p.k with
  | false =>
    have r0 := Lib.hid (NK.out hkb)
    have h1 : p.k < 1 ∨ 16 < p.k := by
      unfold kindB at hkb
      rcases Int.lt_or_le p.k 1 with h2 | h2
      · exact .inl h2
      · refine .inr (Int.not_le.1 fun h3 => ?_)
        simp [h2, h3] at hkb
    clear hkb
    by_cases h2 : p.k < 1
    · have d1 : decide (p.k < 1) = true := decide_eq_true h2
      go_wp2_with fail
      go_ret
      exact ⟨by rw [r0.out]; rfl, B2.out⟩
    · have d1 : decide (p.k < 1) = false := decide_eq_false h2
      have d2 : decide (16 < p.k) = true := decide_eq_true (by omega)
      have h3 : 16 < p.k := by omega
      clear h1
      go_wp2_with fail
      go_ret
      exact ⟨by rw [r0.out]; rfl, B2.out⟩
  | true =>
    have kbd := kind_bd hkb
    have HKB := Lib.hid hkb
    have h2 : ¬ p.k < 1 := by omega
    have h3 : ¬ 16 < p.k := by omega
    have d1 : decide (p.k < 1) = false := decide_eq_false h2
    have d2 : decide (16 < p.k) = false := decide_eq_false h3
    clear hkb kbd
    go_wp2_with (refine wpList_load_met rfl 35 (.tmp 1) rfl w.heap.size rfl 35 C (0, 0) _ G2.out Try.underlying35 ⟨_, rfl⟩ IC.out ?_)
    refine (CT.out w2 B2.out).mono ?_
    rintro e w3 ⟨rfl, hb⟩
    have B3 := Lib.hid (B2.out.trans (hb.mono B2.out.size))
    have G3 := Lib.hid ((hb.block _ (blk_lt G2.out)).trans G2.out)
    have A3 := Lib.hid (SA.out.below hb)
    have K3 := Lib.hid (SK.out.below hb)
    have S3 := Lib.hid (SB.out.below hb)
    clear ck hb SA SK SB G2 B2 CT d1 d2 h2 h3
    cases hc : cntB p with
    | false =>
      have r0 := Lib.hid (NC.out hc)
      clear hc
      go_wp2_with fail
      go_ret
      exact ⟨by rw [r0.out]; rfl, B3.out⟩
    | true =>
      have HCB := Lib.hid hc
      clear hc
      go_wp2_with fail
      go_loop [6] (fun i => ∃ j : Nat, j ≤ 8 ∧ i = .int .i64 j ∧ ∀ m, m < j → nOk p m = true) (fun i => 8 - (intOf i).toNat)
      case atStart => exact ⟨0, Nat.zero_le _, rfl, fun m hm => absurd hm (Nat.not_lt_zero m)⟩
      case round =>
        obtain ⟨j, hj, rfl, hn⟩ := hrel
        have HN := Lib.hid hn
        clear hn
        by_cases hlt : j < 8
        · have hlt2 : (j : Int) < 8 := by omega
          go_wp2_with fail
          refine (widthN j hlt _).mono ?_
          rintro e w' ⟨rfl, rfl⟩
          rcases wN_cases j with hw | hw
          · rw [hw]
            go_wp2_with fail
            refine (amongC (nA p.k) _ j _ A3.out LA.out).mono ?_
            rintro e w' ⟨rfl, rfl⟩
            cases ha : amB (nA p.k) j with
            | true =>
              have hM : mostN p.k j = 255 := by unfold mostN; rw [ha, hw]; rfl
              obtain ⟨m1, m2, m3⟩ := MN.out j 255 hM
              have M1 := Lib.hid m1
              have M2 := Lib.hid m2
              have M3 := Lib.hid m3
              have cj := (RW.out w3 G3.out).2 j hlt
              generalize numA p j = V at cj M1 M2 M3
              clear hM m1 m2 m3
              by_cases v0 : V < 0
              · have e0 := Lib.hid (NB.out j hlt (M1.out v0))
                have d0 : decide (V < 0) = true := decide_eq_true v0
                clear M1 M2 M3
                go_wp2
                go_ret
                exact ⟨by rw [e0.out]; rfl, B3.out⟩
              · have d0 : decide (V < 0) = false := decide_eq_false v0
                by_cases v1 : 255 < V
                · have e0 := Lib.hid (NB.out j hlt (M2.out (by omega) v1))
                  have d1 : decide (255 < V) = true := decide_eq_true v1
                  clear M1 M2 M3
                  go_wp2
                  go_ret
                  exact ⟨by rw [e0.out]; rfl, B3.out⟩
                · have e0 := Lib.hid (M3.out (by omega) (by omega))
                  have d1 : decide (255 < V) = false := decide_eq_false v1
                  clear M1 M2 M3
                  go_wp2
                  go_round
                  case rel =>
                    refine ⟨j + 1, by omega, by go_num, fun m hm => ?_⟩
                    rcases Nat.lt_succ_iff_lt_or_eq.1 hm with h1 | rfl
                    · exact HN.out m h1
                    · exact e0.out
                  case measure => simp [intOf]; omega
            | false =>
              go_wp2_with fail
              refine (amongC (nB p.k) _ j _ S3.out LB.out).mono ?_
              rintro e w' ⟨rfl, rfl⟩
              cases hb : amB (nB p.k) j with
              | true =>
                have hM : mostN p.k j = 255 := by unfold mostN; rw [ha, hb, hw]; rfl
                obtain ⟨m1, m2, m3⟩ := MN.out j 255 hM
                have M1 := Lib.hid m1
                have M2 := Lib.hid m2
                have M3 := Lib.hid m3
                have cj := (RW.out w3 G3.out).2 j hlt
                generalize numA p j = V at cj M1 M2 M3
                clear hM m1 m2 m3
                by_cases v0 : V < 0
                · have e0 := Lib.hid (NB.out j hlt (M1.out v0))
                  have d0 : decide (V < 0) = true := decide_eq_true v0
                  clear M1 M2 M3
                  go_wp2
                  go_ret
                  exact ⟨by rw [e0.out]; rfl, B3.out⟩
                · have d0 : decide (V < 0) = false := decide_eq_false v0
                  by_cases v1 : 255 < V
                  · have e0 := Lib.hid (NB.out j hlt (M2.out (by omega) v1))
                    have d1 : decide (255 < V) = true := decide_eq_true v1
                    clear M1 M2 M3
                    go_wp2
                    go_ret
                    exact ⟨by rw [e0.out]; rfl, B3.out⟩
                  · have e0 := Lib.hid (M3.out (by omega) (by omega))
                    have d1 : decide (255 < V) = false := decide_eq_false v1
                    clear M1 M2 M3
                    go_wp2
                    go_round
                    case rel =>
                      refine ⟨j + 1, by omega, by go_num, fun m hm => ?_⟩
                      rcases Nat.lt_succ_iff_lt_or_eq.1 hm with h1 | rfl
                      · exact HN.out m h1
                      · exact e0.out
                    case measure => simp [intOf]; omega
              | false =>
                have hM : mostN p.k j = 0 := by unfold mostN; rw [ha, hb]; rfl
                obtain ⟨m1, m2, m3⟩ := MN.out j 0 hM
                have M1 := Lib.hid m1
                have M2 := Lib.hid m2
                have M3 := Lib.hid m3
                have cj := (RW.out w3 G3.out).2 j hlt
                generalize numA p j = V at cj M1 M2 M3
                clear hM m1 m2 m3
                by_cases v0 : V < 0
                · have e0 := Lib.hid (NB.out j hlt (M1.out v0))
                  have d0 : decide (V < 0) = true := decide_eq_true v0
                  clear M1 M2 M3
                  go_wp2
                  go_ret
                  exact ⟨by rw [e0.out]; rfl, B3.out⟩
                · have d0 : decide (V < 0) = false := decide_eq_false v0
                  by_cases v1 : 0 < V
                  · have e0 := Lib.hid (NB.out j hlt (M2.out (by omega) v1))
                    have d1 : decide (0 < V) = true := decide_eq_true v1
                    clear M1 M2 M3
                    go_wp2
                    go_ret
                    exact ⟨by rw [e0.out]; rfl, B3.out⟩
                  · have e0 := Lib.hid (M3.out (by omega) (by omega))
                    have d1 : decide (0 < V) = false := decide_eq_false v1
                    clear M1 M2 M3
                    go_wp2
                    go_round
                    case rel =>
                      refine ⟨j + 1, by omega, by go_num, fun m hm => ?_⟩
                      rcases Nat.lt_succ_iff_lt_or_eq.1 hm with h1 | rfl
                      · exact HN.out m h1
                      · exact e0.out
                    case measure => simp [intOf]; omega
          · rw [hw]
            go_wp2_with fail
            refine (amongC (nA p.k) _ j _ A3.out LA.out).mono ?_
            rintro e w' ⟨rfl, rfl⟩
            cases ha : amB (nA p.k) j with
            | true =>
              have hM : mostN p.k j = 65535 := by unfold mostN; rw [ha, hw]; rfl
              obtain ⟨m1, m2, m3⟩ := MN.out j 65535 hM
              have M1 := Lib.hid m1
              have M2 := Lib.hid m2
              have M3 := Lib.hid m3
              have cj := (RW.out w3 G3.out).2 j hlt
              generalize numA p j = V at cj M1 M2 M3
              clear hM m1 m2 m3
              by_cases v0 : V < 0
              · have e0 := Lib.hid (NB.out j hlt (M1.out v0))
                have d0 : decide (V < 0) = true := decide_eq_true v0
                clear M1 M2 M3
                go_wp2
                go_ret
                exact ⟨by rw [e0.out]; rfl, B3.out⟩
              · have d0 : decide (V < 0) = false := decide_eq_false v0
                by_cases v1 : 65535 < V
                · have e0 := Lib.hid (NB.out j hlt (M2.out (by omega) v1))
                  have d1 : decide (65535 < V) = true := decide_eq_true v1
                  clear M1 M2 M3
                  go_wp2
                  go_ret
                  exact ⟨by rw [e0.out]; rfl, B3.out⟩
                · have e0 := Lib.hid (M3.out (by omega) (by omega))
                  have d1 : decide (65535 < V) = false := decide_eq_false v1
                  clear M1 M2 M3
                  go_wp2
                  go_round
                  case rel =>
                    refine ⟨j + 1, by omega, by go_num, fun m hm => ?_⟩
                    rcases Nat.lt_succ_iff_lt_or_eq.1 hm with h1 | rfl
                    · exact HN.out m h1
                    · exact e0.out
                  case measure => simp [intOf]; omega
            | false =>
              go_wp2_with fail
              refine (amongC (nB p.k) _ j _ S3.out LB.out).mono ?_
              rintro e w' ⟨rfl, rfl⟩
              cases hb : amB (nB p.k) j with
              | true =>
                have hM : mostN p.k j = 65535 := by unfold mostN; rw [ha, hb, hw]; rfl
                obtain ⟨m1, m2, m3⟩ := MN.out j 65535 hM
                have M1 := Lib.hid m1
                have M2 := Lib.hid m2
                have M3 := Lib.hid m3
                have cj := (RW.out w3 G3.out).2 j hlt
                generalize numA p j = V at cj M1 M2 M3
                clear hM m1 m2 m3
                by_cases v0 : V < 0
                · have e0 := Lib.hid (NB.out j hlt (M1.out v0))
                  have d0 : decide (V < 0) = true := decide_eq_true v0
                  clear M1 M2 M3
                  go_wp2
                  go_ret
                  exact ⟨by rw [e0.out]; rfl, B3.out⟩
                · have d0 : decide (V < 0) = false := decide_eq_false v0
                  by_cases v1 : 65535 < V
                  · have e0 := Lib.hid (NB.out j hlt (M2.out (by omega) v1))
                    have d1 : decide (65535 < V) = true := decide_eq_true v1
                    clear M1 M2 M3
                    go_wp2
                    go_ret
                    exact ⟨by rw [e0.out]; rfl, B3.out⟩
                  · have e0 := Lib.hid (M3.out (by omega) (by omega))
                    have d1 : decide (65535 < V) = false := decide_eq_false v1
                    clear M1 M2 M3
                    go_wp2
                    go_round
                    case rel =>
                      refine ⟨j + 1, by omega, by go_num, fun m hm => ?_⟩
                      rcases Nat.lt_succ_iff_lt_or_eq.1 hm with h1 | rfl
                      · exact HN.out m h1
                      · exact e0.out
                    case measure => simp [intOf]; omega
              | false =>
                have hM : mostN p.k j = 0 := by unfold mostN; rw [ha, hb]; rfl
                obtain ⟨m1, m2, m3⟩ := MN.out j 0 hM
                have M1 := Lib.hid m1
                have M2 := Lib.hid m2
                have M3 := Lib.hid m3
                have cj := (RW.out w3 G3.out).2 j hlt
                generalize numA p j = V at cj M1 M2 M3
                clear hM m1 m2 m3
                by_cases v0 : V < 0
                · have e0 := Lib.hid (NB.out j hlt (M1.out v0))
                  have d0 : decide (V < 0) = true := decide_eq_true v0
                  clear M1 M2 M3
                  go_wp2
                  go_ret
                  exact ⟨by rw [e0.out]; rfl, B3.out⟩
                · have d0 : decide (V < 0) = false := decide_eq_false v0
                  by_cases v1 : 0 < V
                  · have e0 := Lib.hid (NB.out j hlt (M2.out (by omega) v1))
                    have d1 : decide (0 < V) = true := decide_eq_true v1
                    clear M1 M2 M3
                    go_wp2
                    go_ret
                    exact ⟨by rw [e0.out]; rfl, B3.out⟩
                  · have e0 := Lib.hid (M3.out (by omega) (by omega))
                    have d1 : decide (0 < V) = false := decide_eq_false v1
                    clear M1 M2 M3
                    go_wp2
                    go_round
                    case rel =>
                      refine ⟨j + 1, by omega, by go_num, fun m hm => ?_⟩
                      rcases Nat.lt_succ_iff_lt_or_eq.1 hm with h1 | rfl
                      · exact HN.out m h1
                      · exact e0.out
                    case measure => simp [intOf]; omega
        · have hj8 : j = 8 := by omega
          subst hj8
          clear hlt hj
          go_wp2_with fail
          go_loop [8] (fun i => ∃ j : Nat, j ≤ 4 ∧ i = .int .i64 j ∧ ∀ m, m < j → kOk p m = true) (fun i => 4 - (intOf i).toNat)
          case atStart => exact ⟨0, Nat.zero_le _, rfl, fun m hm => absurd hm (Nat.not_lt_zero m)⟩
          case round =>
            obtain ⟨j, hj, rfl, hn⟩ := hrel
            have HN2 := Lib.hid hn
            clear hn
            by_cases hlt : j < 4
            · have h4 : j = 0 ∨ j = 1 ∨ j = 2 ∨ j = 3 := by omega
              have hlt2 : (j : Int) < 4 := by omega
              rcases h4 with rfl | rfl | rfl | rfl
              · go_wp2_with fail
                refine (amongC (nK p.k) _ 0 _ K3.out LK.out).mono ?_
                rintro e w' ⟨rfl, rfl⟩
                cases ha : amB (nK p.k) 0 with
                | true =>
                  have e0 : Hid (kOk p 0 = true) := by show _ = _; unfold kOk; rw [ha]; rfl
                  go_wp2_with fail
                  go_round
                  case rel =>
                    refine ⟨1, by omega, by go_num, fun m hm => ?_⟩
                    rcases Nat.lt_succ_iff_lt_or_eq.1 hm with h1 | rfl
                    · exact HN2.out m h1
                    · exact e0.out
                  case measure => simp [intOf]
                | false =>
                  obtain ⟨k1, k2⟩ := RK.out w3 G3.out 0 (by omega)
                  have RT : Hid (w3.rangeAt w.heap.size 9 (kb (keyA p 0))) := k2
                  have IR : Hid ((Try.prog.info? 22).map (·.size) = some (kb (keyA p 0)).length) := by show _ = _; rw [kb_len, k1.1]; kernel_rfl
                  have B22 : Hid (∀ W : World, (Instr.build 22 #[]).run Try.prog W = .ok (.agg (bcells z32)) W) := fun W => by kernel_rfl
                  have eq : ∀ W, (Op.equalIn 10000 22 (.agg (kb (keyA p 0)).toArray) (.agg (bcells z32))).run Try.prog W = .ok (decide (keyA p 0 = z32)) W := fun W => eqBytes 9998 22 32 Try.underlying22 _ _ k1.2 z32_ok.2 k1.1 z32_ok.1 W
                  have NK0 := Lib.hid (KB.out 0 (by omega))
                  have ek : Hid (kOk p 0 = decide (keyA p 0 = z32)) := by show _ = _; unfold kOk; rw [ha]; rfl
                  clear k1 k2
                  cases hd : decide (keyA p 0 = z32) with
                  | true =>
                    rw [hd] at eq ek
                    clear hd
                    generalize kb (keyA p 0) = X at RT IR eq
                    generalize bcells z32 = Y at B22 eq
                    go_wp2_with (first
                      | (refine wpList_mid_met rfl 22 (.tmp 70) rfl w.heap.size 9 rfl X _ RT.out Try.underlying22 rfl IR.out ?_)
                      | (refine wpList_blank_met rfl 22 rfl (B22.out _) ?_))
                    go_round
                    case rel =>
                      refine ⟨1, by omega, by go_num, fun m hm => ?_⟩
                      rcases Nat.lt_succ_iff_lt_or_eq.1 hm with h1 | rfl
                      · exact HN2.out m h1
                      · exact ek.out
                    case measure => simp [intOf]
                  | false =>
                    rw [hd] at eq ek
                    have e0 := Lib.hid (NK0.out ek.out)
                    clear hd
                    generalize kb (keyA p 0) = X at RT IR eq
                    generalize bcells z32 = Y at B22 eq
                    go_wp2_with (first
                      | (refine wpList_mid_met rfl 22 (.tmp 70) rfl w.heap.size 9 rfl X _ RT.out Try.underlying22 rfl IR.out ?_)
                      | (refine wpList_blank_met rfl 22 rfl (B22.out _) ?_))
                    go_ret
                    exact ⟨by rw [e0.out]; rfl, B3.out⟩
              · go_wp2_with fail
                refine (amongC (nK p.k) _ 1 _ K3.out LK.out).mono ?_
                rintro e w' ⟨rfl, rfl⟩
                cases ha : amB (nK p.k) 1 with
                | true =>
                  have e0 : Hid (kOk p 1 = true) := by show _ = _; unfold kOk; rw [ha]; rfl
                  go_wp2_with fail
                  go_round
                  case rel =>
                    refine ⟨2, by omega, by go_num, fun m hm => ?_⟩
                    rcases Nat.lt_succ_iff_lt_or_eq.1 hm with h1 | rfl
                    · exact HN2.out m h1
                    · exact e0.out
                  case measure => simp [intOf]
                | false =>
                  obtain ⟨k1, k2⟩ := RK.out w3 G3.out 1 (by omega)
                  have RT : Hid (w3.rangeAt w.heap.size 41 (kb (keyA p 1))) := k2
                  have IR : Hid ((Try.prog.info? 22).map (·.size) = some (kb (keyA p 1)).length) := by show _ = _; rw [kb_len, k1.1]; kernel_rfl
                  have B22 : Hid (∀ W : World, (Instr.build 22 #[]).run Try.prog W = .ok (.agg (bcells z32)) W) := fun W => by kernel_rfl
                  have eq : ∀ W, (Op.equalIn 10000 22 (.agg (kb (keyA p 1)).toArray) (.agg (bcells z32))).run Try.prog W = .ok (decide (keyA p 1 = z32)) W := fun W => eqBytes 9998 22 32 Try.underlying22 _ _ k1.2 z32_ok.2 k1.1 z32_ok.1 W
                  have NK0 := Lib.hid (KB.out 1 (by omega))
                  have ek : Hid (kOk p 1 = decide (keyA p 1 = z32)) := by show _ = _; unfold kOk; rw [ha]; rfl
                  clear k1 k2
                  cases hd : decide (keyA p 1 = z32) with
                  | true =>
                    rw [hd] at eq ek
                    clear hd
                    generalize kb (keyA p 1) = X at RT IR eq
                    generalize bcells z32 = Y at B22 eq
                    go_wp2_with (first
                      | (refine wpList_mid_met rfl 22 (.tmp 70) rfl w.heap.size 41 rfl X _ RT.out Try.underlying22 rfl IR.out ?_)
                      | (refine wpList_blank_met rfl 22 rfl (B22.out _) ?_))
                    go_round
                    case rel =>
                      refine ⟨2, by omega, by go_num, fun m hm => ?_⟩
                      rcases Nat.lt_succ_iff_lt_or_eq.1 hm with h1 | rfl
                      · exact HN2.out m h1
                      · exact ek.out
                    case measure => simp [intOf]
                  | false =>
                    rw [hd] at eq ek
                    have e0 := Lib.hid (NK0.out ek.out)
                    clear hd
                    generalize kb (keyA p 1) = X at RT IR eq
                    generalize bcells z32 = Y at B22 eq
                    go_wp2_with (first
                      | (refine wpList_mid_met rfl 22 (.tmp 70) rfl w.heap.size 41 rfl X _ RT.out Try.underlying22 rfl IR.out ?_)
                      | (refine wpList_blank_met rfl 22 rfl (B22.out _) ?_))
                    go_ret
                    exact ⟨by rw [e0.out]; rfl, B3.out⟩
              · go_wp2_with fail
                refine (amongC (nK p.k) _ 2 _ K3.out LK.out).mono ?_
                rintro e w' ⟨rfl, rfl⟩
                cases ha : amB (nK p.k) 2 with
                | true =>
                  have e0 : Hid (kOk p 2 = true) := by show _ = _; unfold kOk; rw [ha]; rfl
                  go_wp2_with fail
                  go_round
                  case rel =>
                    refine ⟨3, by omega, by go_num, fun m hm => ?_⟩
                    rcases Nat.lt_succ_iff_lt_or_eq.1 hm with h1 | rfl
                    · exact HN2.out m h1
                    · exact e0.out
                  case measure => simp [intOf]
                | false =>
                  obtain ⟨k1, k2⟩ := RK.out w3 G3.out 2 (by omega)
                  have RT : Hid (w3.rangeAt w.heap.size 73 (kb (keyA p 2))) := k2
                  have IR : Hid ((Try.prog.info? 22).map (·.size) = some (kb (keyA p 2)).length) := by show _ = _; rw [kb_len, k1.1]; kernel_rfl
                  have B22 : Hid (∀ W : World, (Instr.build 22 #[]).run Try.prog W = .ok (.agg (bcells z32)) W) := fun W => by kernel_rfl
                  have eq : ∀ W, (Op.equalIn 10000 22 (.agg (kb (keyA p 2)).toArray) (.agg (bcells z32))).run Try.prog W = .ok (decide (keyA p 2 = z32)) W := fun W => eqBytes 9998 22 32 Try.underlying22 _ _ k1.2 z32_ok.2 k1.1 z32_ok.1 W
                  have NK0 := Lib.hid (KB.out 2 (by omega))
                  have ek : Hid (kOk p 2 = decide (keyA p 2 = z32)) := by show _ = _; unfold kOk; rw [ha]; rfl
                  clear k1 k2
                  cases hd : decide (keyA p 2 = z32) with
                  | true =>
                    rw [hd] at eq ek
                    clear hd
                    generalize kb (keyA p 2) = X at RT IR eq
                    generalize bcells z32 = Y at B22 eq
                    go_wp2_with (first
                      | (refine wpList_mid_met rfl 22 (.tmp 70) rfl w.heap.size 73 rfl X _ RT.out Try.underlying22 rfl IR.out ?_)
                      | (refine wpList_blank_met rfl 22 rfl (B22.out _) ?_))
                    go_round
                    case rel =>
                      refine ⟨3, by omega, by go_num, fun m hm => ?_⟩
                      rcases Nat.lt_succ_iff_lt_or_eq.1 hm with h1 | rfl
                      · exact HN2.out m h1
                      · exact ek.out
                    case measure => simp [intOf]
                  | false =>
                    rw [hd] at eq ek
                    have e0 := Lib.hid (NK0.out ek.out)
                    clear hd
                    generalize kb (keyA p 2) = X at RT IR eq
                    generalize bcells z32 = Y at B22 eq
                    go_wp2_with (first
                      | (refine wpList_mid_met rfl 22 (.tmp 70) rfl w.heap.size 73 rfl X _ RT.out Try.underlying22 rfl IR.out ?_)
                      | (refine wpList_blank_met rfl 22 rfl (B22.out _) ?_))
                    go_ret
                    exact ⟨by rw [e0.out]; rfl, B3.out⟩
              · go_wp2_with fail
                refine (amongC (nK p.k) _ 3 _ K3.out LK.out).mono ?_
                rintro e w' ⟨rfl, rfl⟩
                cases ha : amB (nK p.k) 3 with
                | true =>
                  have e0 : Hid (kOk p 3 = true) := by show _ = _; unfold kOk; rw [ha]; rfl
                  go_wp2_with fail
                  go_round
                  case rel =>
                    refine ⟨4, by omega, by go_num, fun m hm => ?_⟩
                    rcases Nat.lt_succ_iff_lt_or_eq.1 hm with h1 | rfl
                    · exact HN2.out m h1
                    · exact e0.out
                  case measure => simp [intOf]
                | false =>
                  obtain ⟨k1, k2⟩ := RK.out w3 G3.out 3 (by omega)
                  have RT : Hid (w3.rangeAt w.heap.size 105 (kb (keyA p 3))) := k2
                  have IR : Hid ((Try.prog.info? 22).map (·.size) = some (kb (keyA p 3)).length) := by show _ = _; rw [kb_len, k1.1]; kernel_rfl
                  have B22 : Hid (∀ W : World, (Instr.build 22 #[]).run Try.prog W = .ok (.agg (bcells z32)) W) := fun W => by kernel_rfl
                  have eq : ∀ W, (Op.equalIn 10000 22 (.agg (kb (keyA p 3)).toArray) (.agg (bcells z32))).run Try.prog W = .ok (decide (keyA p 3 = z32)) W := fun W => eqBytes 9998 22 32 Try.underlying22 _ _ k1.2 z32_ok.2 k1.1 z32_ok.1 W
                  have NK0 := Lib.hid (KB.out 3 (by omega))
                  have ek : Hid (kOk p 3 = decide (keyA p 3 = z32)) := by show _ = _; unfold kOk; rw [ha]; rfl
                  clear k1 k2
                  cases hd : decide (keyA p 3 = z32) with
                  | true =>
                    rw [hd] at eq ek
                    clear hd
                    generalize kb (keyA p 3) = X at RT IR eq
                    generalize bcells z32 = Y at B22 eq
                    go_wp2_with (first
                      | (refine wpList_mid_met rfl 22 (.tmp 70) rfl w.heap.size 105 rfl X _ RT.out Try.underlying22 rfl IR.out ?_)
                      | (refine wpList_blank_met rfl 22 rfl (B22.out _) ?_))
                    go_round
                    case rel =>
                      refine ⟨4, by omega, by go_num, fun m hm => ?_⟩
                      rcases Nat.lt_succ_iff_lt_or_eq.1 hm with h1 | rfl
                      · exact HN2.out m h1
                      · exact ek.out
                    case measure => simp [intOf]
                  | false =>
                    rw [hd] at eq ek
                    have e0 := Lib.hid (NK0.out ek.out)
                    clear hd
                    generalize kb (keyA p 3) = X at RT IR eq
                    generalize bcells z32 = Y at B22 eq
                    go_wp2_with (first
                      | (refine wpList_mid_met rfl 22 (.tmp 70) rfl w.heap.size 105 rfl X _ RT.out Try.underlying22 rfl IR.out ?_)
                      | (refine wpList_blank_met rfl 22 rfl (B22.out _) ?_))
                    go_ret
                    exact ⟨by rw [e0.out]; rfl, B3.out⟩
            · have hj4 : j = 4 := by omega
              subst hj4
              have e0 := Lib.hid (OK.out HKB.out HCB.out HN.out HN2.out)
              clear hlt hj
              go_wp2_with fail
              go_ret
              exact ⟨by rw [e0.out]; rfl, B3.out⟩
end Go.Proofs.Ytdohggpajhkkhaa
