/-
  The contract of the document's Encode. Condition: the value reads as a request, with data of at most 5000 bytes.
-/
import Derived.Test.YtdohggpajhkkhaaRqX
namespace Go.Proofs.Ytdohggpajhkkhaa
open Go.RowKit
def fnA (p : Rq) (i : Nat) : List Int := be (wN i) (numA p i)
def outN (p : Rq) (l : List Nat) : List Int := l.flatMap (fnA p)
def outK (p : Rq) (l : List Nat) : List Int := l.flatMap (keyA p)
theorem be_u64 (w : Nat) (hw : w = 1 ∨ w = 2) (n : Int) : be w (n % 18446744073709551616) = be w n := by
  rcases hw with rfl | rfl
  · simp [be]
  · simp [be]; omega
theorem out_succ (f : Nat → List Int) (l : List Nat) (j a : Nat) (h : l[j]? = some a) : (l.take (j + 1)).flatMap f = (l.take j).flatMap f ++ f a := by
  rw [List.take_add_one, h]
  simp
theorem out_le (f : Nat → List Int) (B : Nat) : ∀ l : List Nat, (∀ a ∈ l, (f a).length ≤ B) → (l.flatMap f).length ≤ B * l.length
  | [], _ => by simp
  | a :: r, h => by
    have h1 := h a (by simp)
    have h2 := out_le f B r (fun x hx => h x (by simp [hx]))
    rw [List.flatMap_cons, List.length_append, List.length_cons, Nat.mul_add]
    omega
theorem nums_small {k : Int} : (∀ a ∈ nA k, a < 8) ∧ (∀ a ∈ nK k, a < 4) ∧ (∀ a ∈ nB k, a < 8) := by
  cases hb : kindB k with
  | false => obtain ⟨e1, e2, e3⟩ := nums_no hb; rw [e1, e2, e3]; exact ⟨fun a h => by simp at h, fun a h => by simp at h, fun a h => by simp at h⟩
  | true => rcases kind_cases hb with rfl | rfl | rfl | rfl | rfl | rfl | rfl | rfl | rfl | rfl | rfl | rfl | rfl | rfl | rfl | rfl <;> decide
theorem fnA_len (p : Rq) (i : Nat) : (fnA p i).length ≤ 2 := by unfold fnA; rw [be_len]; rcases wN_cases i with h | h <;> omega
theorem wr_ref {p : Rq} (hk : kindB p.k = true) (hd : p.k ≠ 4 → p.d = []) : wrL p = outN p (nA p.k) ++ (outK p (nK p.k) ++ (outN p (nB p.k) ++ p.d)) := by
  unfold wrL outN outK
  rcases kind_cases hk with e | e | e | e | e | e | e | e | e | e | e | e | e | e | e | e
  · have hd := hd (by omega)
    rw [e]
    show joinL (fieldW p) [116, 111] = _
    rw [hd]
    rw [show nA 1 = [1] from rfl, show nK 1 = [0] from rfl, show nB 1 = [] from rfl]
    simp only [joinL, List.flatMap_cons, List.flatMap_nil, List.append_nil]
    rfl
  · have hd := hd (by omega)
    rw [e]
    show joinL (fieldW p) [115] = _
    rw [hd]
    rfl
  · have hd := hd (by omega)
    rw [e]
    show joinL (fieldW p) [115, 118, 98, 99] = _
    rw [hd]
    rfl
  · clear hd
    rw [e]
    show joinL (fieldW p) [115, 118, 98, 100] = _
    rw [show nA 4 = [0, 2, 3] from rfl, show nK 4 = [] from rfl, show nB 4 = [] from rfl]
    simp only [joinL, List.flatMap_cons, List.flatMap_nil, List.append_nil, List.append_assoc, List.nil_append]
    rfl
  · have hd := hd (by omega)
    rw [e]
    show joinL (fieldW p) [115, 118, 98, 99] = _
    rw [hd]
    rfl
  · have hd := hd (by omega)
    rw [e]
    show joinL (fieldW p) [115, 118, 99] = _
    rw [hd]
    rfl
  · have hd := hd (by omega)
    rw [e]
    show joinL (fieldW p) [115, 118] = _
    rw [hd]
    rfl
  · have hd := hd (by omega)
    rw [e]
    show joinL (fieldW p) [115, 118, 99] = _
    rw [hd]
    rfl
  · have hd := hd (by omega)
    rw [e]
    show joinL (fieldW p) [115, 118, 110] = _
    rw [hd]
    rfl
  · have hd := hd (by omega)
    rw [e]
    show joinL (fieldW p) [115] = _
    rw [hd]
    rfl
  · have hd := hd (by omega)
    rw [e]
    show joinL (fieldW p) [115] = _
    rw [hd]
    rfl
  · have hd := hd (by omega)
    rw [e]
    show joinL (fieldW p) [115, 111, 102, 120] = _
    rw [hd]
    rw [show nA 12 = [0] from rfl, show nK 12 = [0, 1, 3] from rfl, show nB 12 = [] from rfl]
    simp only [joinL, List.flatMap_cons, List.flatMap_nil, List.append_nil]
    rfl
  · have hd := hd (by omega)
    rw [e]
    show joinL (fieldW p) [115] = _
    rw [hd]
    rfl
  · have hd := hd (by omega)
    rw [e]
    show joinL (fieldW p) [116, 111, 109, 120, 114, 113] = _
    rw [hd]
    rw [show nA 14 = [1] from rfl, show nK 14 = [0, 2, 3] from rfl, show nB 14 = [6, 7] from rfl]
    simp only [joinL, List.flatMap_cons, List.flatMap_nil, List.append_nil, List.append_assoc]
    rfl
  · have hd := hd (by omega)
    rw [e]
    show joinL (fieldW p) [116, 114, 113] = _
    rw [hd]
    rfl
  · have hd := hd (by omega)
    rw [e]
    show joinL (fieldW p) [116] = _
    rw [hd]
    rfl
theorem sees_key35 {W : World} {R : Nat} {p : Rq} {dv : Value} (hp : RQ p) (h : W.heap[R]? = some (.cells (rc p dv).toArray 35 (0, 0))) (i : Nat) (hi : i < 4) : Sees W (.slice (some ⟨R, 9 + 32 * i, none⟩) 32 32) (keyA p i) := by
  have key : ∀ l, isK l = true → Sees W (.slice (some ⟨R, offL l, none⟩) 32 32) (keyL p l) := fun l hl => by
    obtain ⟨⟨h1, h2⟩, h3⟩ := rc_key hl hp dv
    refine ⟨h2, .inr (.inr ⟨R, offL l, 32, by rw [h1], fun e => by rw [e] at h1; simp at h1, by omega, by decide, fun j hj => ?_⟩)⟩
    rw [cell_of_row W R _ _ _ _ h, arr_at, h3 j (by omega)]
  have h4 : i = 0 ∨ i = 1 ∨ i = 2 ∨ i = 3 := by omega
  rcases h4 with rfl | rfl | rfl | rfl
  · exact key 111 rfl
  · exact key 102 rfl
  · exact key 109 rfl
  · exact key 120 rfl
/-- The world while the document writes: the bytes so far, the call's own; what lay there stands. -/
def DW (w : World) (v : Value) (xs : List Int) (W : World) : Prop := Below w.heap.size w W ∧ Own W w.heap.size v xs
theorem DW.app {w W : World} {v u : Value} {xs ys : List Int} (h : DW w v xs W) {W2 : World} (hb : Below W.heap.size W W2) (hs : Sees W2 u ys) (hl : xs.length + ys.length ≤ 1000000) :
    ∃ x n c w', (Builtin.append_ #[24, 24] 24 #[v, u]).run Try.prog W2 = .ok (.slice x n c) w' ∧ DW w (.slice x n c) (xs ++ ys) w' ∧ Below w.heap.size w w' := by
  obtain ⟨x, c, w', hr, ho, hg, hbel⟩ := Ytdohggpajhkkhaa.app (h.2.below hb) hs (by omega) (Nat.le_trans h.1.size hb.size)
  have hw := (h.1.trans (hb.mono h.1.size)).trans hbel
  exact ⟨x, _, c, w', hr, ⟨hw, ho⟩, hw⟩
def WrD (w : World) (p : Rq) (e : Ending) (w' : World) : Prop := ∃ x cap, e = .returned (.tuple #[.slice x (encV p).length cap, .int .i64 (encE p)]) ∧ Sees w' (.slice x (encV p).length cap) (encV p) ∧ Below w.heap.size w w'
set_option maxRecDepth 100000 in
set_option maxHeartbeats 4000000 in
theorem encodeD {p : Rq} (hp : RQ p) (h5 : p.d.length ≤ 5000) (dv : Value) (w : World) (hd : Sees w dv p.d) : Calls Try.prog 9 #[.agg (rc p dv).toArray] w (EncP w p) := by
  obtain ⟨x, cap, rfl, hx63⟩ := hd.form
  obtain ⟨C, hC⟩ : ∃ C, C = (rc p (.slice x p.d.length cap)).toArray := ⟨_, rfl⟩
  have ic := i35 hp (.slice x p.d.length cap)
  obtain ⟨w1, hw1⟩ : ∃ w1, w1 = w.alloc (.cells (rc p (.slice x p.d.length cap)).toArray 35) := ⟨_, rfl⟩
  have b1 : Below w.heap.size w w1 := by rw [hw1]; exact (Below.refl _ _).alloc (Nat.le_refl _) _
  have g1 : w1.heap[w.heap.size]? = some (.cells (rc p (.slice x p.d.length cap)).toArray 35 (0, 0)) := by rw [hw1]; exact heap_alloc_new w _
  obtain ⟨ck, cn, cd⟩ := row35 hp g1
  have c5 : w1.cell? ⟨w.heap.size, 5, none⟩ = some (.int .i64 p.c) := cn 4 (by omega)
  have KEYS := Lib.hid (fun i hi => key35 hp g1 i hi)
  rw [← hC] at ic g1 hw1 ⊢
  have IC := Lib.hid ic
  have G1 := Lib.hid g1
  have B1 := Lib.hid b1
  have HW1 := Lib.hid hw1
  have HC := Lib.hid hC
  have hd10 := hp.d
  have hbd := hd.1
  have RI : Hid (∀ W, Below w.heap.size w W → Calls Try.prog 16 #[.agg C] W fun e w' => e = .returned (.bool (rightQ p)) ∧ Below W.heap.size W w') := fun W h => by rw [HC.out, ← ref_right hp hbd h5]; exact rightD hp _ W (hd.below h)
  have RW : Hid (∀ W : World, W.heap[w.heap.size]? = some (.cells C 35 (0, 0)) → W.cell? ⟨w.heap.size, 0, none⟩ = some (.int .i64 p.k) ∧ (∀ i, i < 8 → W.cell? ⟨w.heap.size, 1 + i, none⟩ = some (.int .i64 (numA p i))) ∧ W.cell? ⟨w.heap.size, 137, none⟩ = some (.slice x p.d.length cap)) := fun W h => by rw [HC.out] at h; exact row35 hp h
  have RK : Hid (∀ W : World, W.heap[w.heap.size]? = some (.cells C 35 (0, 0)) → ∀ i, i < 4 → Sees W (.slice (some ⟨w.heap.size, 9 + 32 * i, none⟩) 32 32) (keyA p i)) := fun W h i hi => by rw [HC.out] at h; exact sees_key35 hp h i hi
  have SD : Hid (∀ W, Below w.heap.size w W → Sees W (.slice x p.d.length cap) p.d) := fun W h => hd.below h
  have NM : Hid (∀ W : World, Calls Try.prog 21 #[.int .i64 p.k] W (NumsP W p.k)) := fun W => numsC p.k W
  have NO : Hid (rightQ p = false → ∀ W, Below w.heap.size w W → EncP w p (.returned (.tuple #[.slice none 0 0, .int .i64 3])) W) := fun h W hb => by
    unfold EncP encE encV
    rw [h]
    exact ⟨none, 0, rfl, sees_nil _, hb⟩
  have YES : Hid (rightQ p = true → ∀ W v b, Below w.heap.size w W → Own W b v ((([82, p.k] ++ outN p (nA p.k)) ++ outK p (nK p.k)) ++ outN p (nB p.k) ++ p.d) → EncP w p (.returned (.tuple #[v, .int .i64 0])) W) := fun h W v b hb ho => by
    unfold EncP encE encV
    rw [if_pos h, if_pos h]
    have e : (([82, p.k] ++ outN p (nA p.k)) ++ outK p (nK p.k)) ++ outN p (nB p.k) ++ p.d = 82 :: p.k :: wrL p := by
      have hr := ref_right hp hbd h5
      rw [h] at hr
      unfold refR at hr
      simp only [Bool.and_eq_true] at hr
      rw [wr_ref (right_kind h) (cnt_may.1 hr.2.1).2]
      simp
    rw [e] at ho
    obtain ⟨x, cap, rfl⟩ := ho.form
    exact ⟨x, cap, rfl, ho.sees, hb⟩
  cases hr : rightQ p with
  | false =>
    have NO' := Lib.hid (NO.out hr)
    rw [hr] at RI
    clear NO YES hC hw1 g1 b1 hd h5 hp hr ck cn cd c5 KEYS ic hx63 hd10 hbd RW RK SD NM
    generalize EncP w p = PP at NO' ⊢
    go_enter Try.func9, Try.ntmps9
    go_wp2_with (first | rw [← HW1.out] | refine wpList_load_row rfl 35 (.tmp 1) rfl w.heap.size rfl 35 C (0, 0) _ G1.out Try.underlying35 rfl IC.out ?_)
    refine (RI.out _ B1.out).mono ?_
    rintro e w2 ⟨rfl, hb⟩
    have B2 := Lib.hid (B1.out.trans (hb.mono B1.out.size))
    clear hb
    go_wp2
    exact NO'.out _ B2.out
  | true =>
    have hk := right_kind hr
    have kbd := kind_bd hk
    have YES' := Lib.hid (YES.out hr)
    obtain ⟨la, lk, lb⟩ := nums_le p.k
    obtain ⟨sa8, sk4, sb8⟩ := nums_small (k := p.k)
    have HP5 := Lib.hid h5
    have WU : Hid (IntKind.u8.wrap p.k = p.k) := by show p.k % 256 = p.k; omega
    have KB := Lib.hid kbd
    have L1 : Hid (∀ j, (outN p ((nA p.k).take j)).length ≤ 100) := fun j => by
      have := out_le (fnA p) 2 ((nA p.k).take j) (fun a _ => fnA_len p a)
      have h2 : ((nA p.k).take j).length ≤ (nA p.k).length := by rw [List.length_take]; omega
      show (((nA p.k).take j).flatMap (fnA p)).length ≤ 100
      omega
    have L2 : Hid (∀ j, (outK p ((nK p.k).take j)).length ≤ 1000) := fun j => by
      have := out_le (keyA p) 32 ((nK p.k).take j) (fun a ha => by
        have h4 := sk4 a (List.mem_of_mem_take ha)
        have := (key35 (W := w1) (R := w.heap.size) (p := p) (dv := .slice x p.d.length cap) hp (by rw [HC.out] at g1; exact g1) a h4).1.1
        omega)
      have h2 : ((nK p.k).take j).length ≤ (nK p.k).length := by rw [List.length_take]; omega
      show (((nK p.k).take j).flatMap (keyA p)).length ≤ 1000
      omega
    have L3 : Hid (∀ j, (outN p ((nB p.k).take j)).length ≤ 100) := fun j => by
      have := out_le (fnA p) 2 ((nB p.k).take j) (fun a _ => fnA_len p a)
      have h2 : ((nB p.k).take j).length ≤ (nB p.k).length := by rw [List.length_take]; omega
      show (((nB p.k).take j).flatMap (fnA p)).length ≤ 100
      omega
    have KLN : Hid (∀ i, i < 4 → (keyA p i).length = 32) := fun i hi => (key35 (W := w1) (R := w.heap.size) (p := p) (dv := .slice x p.d.length cap) hp (by rw [HC.out] at g1; exact g1) i hi).1.1
    have LA8 := Lib.hid la
    have LK8 := Lib.hid lk
    have LB8 := Lib.hid lb
    have L1F : Hid ((outN p (nA p.k)).length ≤ 100) := by have := L1.out (nA p.k).length; rw [List.take_of_length_le (Nat.le_refl _)] at this; exact this
    have L2F : Hid ((outK p (nK p.k)).length ≤ 1000) := by have := L2.out (nK p.k).length; rw [List.take_of_length_le (Nat.le_refl _)] at this; exact this
    have L3F : Hid ((outN p (nB p.k)).length ≤ 100) := by have := L3.out (nB p.k).length; rw [List.take_of_length_le (Nat.le_refl _)] at this; exact this
    have SA8 := Lib.hid sa8
    have SK4 := Lib.hid sk4
    have SB8 := Lib.hid sb8
    rw [hr] at RI
    clear NO YES hC hw1 g1 b1 hd h5 hp hr ck cn cd c5 KEYS ic hx63 hd10 hbd hk la lk lb sa8 sk4 sb8 kbd
    generalize EncP w p = PP at YES' ⊢
    go_enter Try.func9, Try.ntmps9
    go_wp2_with (first | rw [← HW1.out] | refine wpList_load_row rfl 35 (.tmp 1) rfl w.heap.size rfl 35 C (0, 0) _ G1.out Try.underlying35 rfl IC.out ?_)
    refine (RI.out _ B1.out).mono ?_
    rintro e w2 ⟨rfl, hb⟩
    have B2 := Lib.hid (B1.out.trans (hb.mono B1.out.size))
    have G2 := Lib.hid ((hb.block _ (blk_lt G1.out)).trans G1.out)
    have ck := (RW.out w2 G2.out).1
    clear hb G1 B1 RI
    go_wp2_with fail
    refine (NM.out _).mono ?_
    rintro e w3 ⟨va, vk, vb, rfl, sa, sk, sb, hb⟩
    obtain ⟨xa, ca, rfl⟩ := sa.form
    obtain ⟨xk, kc, rfl⟩ := sk.form
    obtain ⟨xb, cb, rfl⟩ := sb.form
    have B3 := Lib.hid (B2.out.trans (hb.mono B2.out.size))
    have G3 := Lib.hid ((hb.block _ (blk_lt G2.out)).trans G2.out)
    have SA := Lib.hid sa
    have SK := Lib.hid sk
    have SB := Lib.hid sb
    clear ck hb sa sk sb G2 B2 NM
    have ck := (RW.out w3 G3.out).1
    have wu := WU.out
    obtain ⟨w4, hw4⟩ : ∃ w4, w4 = w3.alloc (.cells #[.int .u8 82, .int .u8 p.k] 5) := ⟨_, rfl⟩
    have D4 : Hid (DW w3 (.slice (some ⟨w3.heap.size, 0, none⟩) 2 2) [82, p.k] w4) := by
      refine ⟨by rw [hw4]; exact (Below.refl _ _).alloc (Nat.le_refl _) _, ?_⟩
      exact own_of (byt_of _ (by have := KB.out; simp; omega)) (by show 2 ≤ maxLen; decide) (by rw [hw4]; exact heap_alloc_new w3 _) (Nat.le_refl _) rfl
    have HW4 := Lib.hid hw4
    clear hw4
    go_upto_region 6 with (first | rw [← HW4.out])
    clear ck wu
    go_loopw [7, 8] (fun o i wr => ∃ (j : Nat) (v : Value), j ≤ (nA p.k).length ∧ i = .int .i64 j ∧ o = v ∧ DW w3 v ([82, p.k] ++ outN p ((nA p.k).take j)) wr) (fun _ i _ => (nA p.k).length - (intOf i).toNat)
    case atStart => exact ⟨0, _, Nat.zero_le _, rfl, rfl, by simpa [outN] using D4.out⟩
    case round =>
      obtain ⟨j, v, hj, rfl, ho, hdw⟩ := hrel
      obtain ⟨x1, n1, c1, e1⟩ : ∃ x n c, v = Value.slice x n c := by
        obtain ⟨x, c, e⟩ := hdw.2.form
        exact ⟨x, _, c, e⟩
      subst e1
      subst ho
      have D := Lib.hid hdw
      clear hdw
      by_cases hlt : j < (nA p.k).length
      · obtain ⟨a, ha⟩ : ∃ a, (nA p.k)[j]? = some a := ⟨_, List.getElem?_eq_getElem hlt⟩
        have ha8 : a < 8 := SA8.out a (List.mem_of_getElem? ha)
        obtain ⟨ga, e1, _⟩ := SA.out.at ha
        subst e1
        have CA : Hid (∀ W, Below w3.heap.size w3 W → W.cell? ⟨ga, j, none⟩ = some (.int .i64 a)) := fun W h => by
          obtain ⟨g', e2, h2⟩ := (SA.out.below h).at ha
          cases e2
          exact h2
        have CN : Hid (∀ W, Below w3.heap.size w3 W → W.cell? ⟨w.heap.size, 1 + a, none⟩ = some (.int .i64 (numA p a))) := fun W h => (RW.out W ((h.block _ (blk_lt G3.out)).trans G3.out)).2.1 a ha8
        obtain ⟨nm, hnm⟩ : ∃ m, m = numA p a % 18446744073709551616 := ⟨_, rfl⟩
        have WRP : Hid (IntKind.u64.wrap (numA p a) = nm) := by show _ = _; rw [hnm]; rfl
        have BYT : Hid (∀ W : World, Calls Try.prog 22 #[.int .u64 nm, .int .i64 (wN a : Nat)] W (OwnP W (be (wN a) nm))) := fun W => octetPuts.refBytes nm (wN a) (by rcases wN_cases a with h | h <;> omega) (by omega) (by omega) W
        have NM2 : Hid (be (wN a) nm = fnA p a) := by show _ = _; rw [hnm]; exact be_u64 _ (wN_cases a) _
        have LJ : Hid (([82, p.k] ++ outN p ((nA p.k).take j)).length ≤ 2000) := by
          have h1 := L1.out j
          show _ ≤ _
          simp only [List.length_append, List.length_cons, List.length_nil]
          omega
        have AT := Lib.hid ha
        have HA8 := Lib.hid ha8
        have HJ : Hid (j + 1 ≤ (nA p.k).length) := hlt
        have BW := Lib.hid (Below.refl wr.heap.size wr)
        clear hnm ha
        generalize numA p a = nv at CN WRP
        have hlc : ((j : Nat) : Int) < ((nA p.k).length : Int) := by omega
        have ha8c : ((a : Nat) : Int) < 8 := by omega
        have hj8c : ((j : Nat) : Int) ≤ 100 := by have := LA8.out; omega
        go_wp2_with fail
        refine wp_region_held_drew (S := fun W => Below w3.heap.size w3 W) (by kernel_rfl) (D.out.1.drew) (fun hS => ?_)
        have hb0 : Below wr.heap.size wr wr.drew := (Below.refl _ _).drew
        have qBW := BW.out.trans (hb0.mono BW.out.size)
        clear hb0 BW
        generalize wr.drew = Wrs at hS qBW ⊢
        have BW := Lib.hid qBW
        clear qBW
        refine' wpAnyH_take (i := 0) ?h1x0r ?hsx0r ?hfx0r ?hrx0r ?hQx0r (Or.inl ⟨?hwx0r, ?hyx0r⟩) hS ?restx0r
        case h1x0r => (simp only [List.getElem?_toArray, List.getElem?_cons_zero]; rfl)
        case hsx0r => kernel_rfl
        case hfx0r => kernel_rfl
        case hrx0r => kernel_rfl
        case hQx0r => exact fun _ _ _ h => h
        case hwx0r => rfl
        case hyx0r =>
          intro W hW
          go_simp
          try with_reducible rfl
        simp only [Act.put, List.setIfInBounds_toArray, List.set_cons_succ, List.set_cons_zero]
        refine' wpAnyH_take (i := 1) ?h1x1r ?hsx1r ?hfx1r ?hrx1r ?hQx1r (Or.inl ⟨?hwx1r, ?hyx1r⟩) hS ?restx1r
        case h1x1r => (simp only [List.getElem?_toArray, List.getElem?_cons_succ, List.getElem?_cons_zero]; rfl)
        case hsx1r => kernel_rfl
        case hfx1r => kernel_rfl
        case hrx1r => kernel_rfl
        case hQx1r => exact fun _ _ _ h => h
        case hwx1r => rfl
        case hyx1r =>
          intro W hW
          go_simp
          try with_reducible rfl
        simp only [Act.put, List.setIfInBounds_toArray, List.set_cons_succ, List.set_cons_zero]
        refine' wpAnyH_take (i := 2) ?h1x2r ?hsx2r ?hfx2r ?hrx2r ?hQx2r (Or.inl ⟨?hwx2r, ?hyx2r⟩) hS ?restx2r
        case h1x2r => (simp only [List.getElem?_toArray, List.getElem?_cons_succ, List.getElem?_cons_zero]; rfl)
        case hsx2r => kernel_rfl
        case hfx2r => kernel_rfl
        case hrx2r => kernel_rfl
        case hQx2r => exact fun _ _ _ h => h
        case hwx2r => rfl
        case hyx2r =>
          intro W hW
          go_simp
          try with_reducible rfl
        simp only [Act.put, List.setIfInBounds_toArray, List.set_cons_succ, List.set_cons_zero]
        refine' wpAnyH_take (i := 5) ?h1x5r ?hsx5r ?hfx5r ?hrx5r ?hQx5r (Or.inl ⟨?hwx5r, ?hyx5r⟩) hS ?restx5r
        case h1x5r => (simp only [List.getElem?_toArray, List.getElem?_cons_succ, List.getElem?_cons_zero]; rfl)
        case hsx5r => kernel_rfl
        case hfx5r => kernel_rfl
        case hrx5r => kernel_rfl
        case hQx5r => exact fun _ _ _ h => h
        case hwx5r => rfl
        case hyx5r =>
          intro W hW
          go_simp
          try with_reducible rfl
        simp only [Act.put, List.setIfInBounds_toArray, List.set_cons_succ, List.set_cons_zero]
        refine' wpAnyH_take (i := 9) ?h1x9r ?hsx9r ?hfx9r ?hrx9r ?hQx9r (Or.inl ⟨?hwx9r, ?hyx9r⟩) hS ?restx9r
        case h1x9r => (simp only [List.getElem?_toArray, List.getElem?_cons_succ, List.getElem?_cons_zero]; rfl)
        case hsx9r => kernel_rfl
        case hfx9r => kernel_rfl
        case hrx9r => kernel_rfl
        case hQx9r => exact fun _ _ _ h => h
        case hwx9r => rfl
        case hyx9r =>
          intro W hW
          go_simp
          try with_reducible rfl
        simp only [Act.put, List.setIfInBounds_toArray, List.set_cons_succ, List.set_cons_zero]
        refine' wpAnyH_take (i := 10) ?h1x10r ?hsx10r ?hfx10r ?hrx10r ?hQx10r (Or.inl ⟨?hwx10r, ?hyx10r⟩) hS ?restx10r
        case h1x10r => (simp only [List.getElem?_toArray, List.getElem?_cons_succ, List.getElem?_cons_zero]; rfl)
        case hsx10r => kernel_rfl
        case hfx10r => kernel_rfl
        case hrx10r => kernel_rfl
        case hQx10r => exact fun _ _ _ h => h
        case hwx10r => rfl
        case hyx10r =>
          intro W hW
          go_simp
          try with_reducible rfl
        simp only [Act.put, List.setIfInBounds_toArray, List.set_cons_succ, List.set_cons_zero]
        refine' wpAnyH_take (i := 3) ?h1x3r ?hsx3r ?hfx3r ?hrx3r ?hQx3r (Or.inl ⟨?hwx3r, ?hyx3r⟩) hS ?restx3r
        case h1x3r => (simp only [List.getElem?_toArray, List.getElem?_cons_succ, List.getElem?_cons_zero]; rfl)
        case hsx3r => kernel_rfl
        case hfx3r => kernel_rfl
        case hrx3r => kernel_rfl
        case hQx3r => exact fun _ _ _ h => h
        case hwx3r => rfl
        case hyx3r =>
          intro W hW
          go_simp
          try with_reducible rfl
        simp only [Act.put, List.setIfInBounds_toArray, List.set_cons_succ, List.set_cons_zero]
        refine' wpAnyH_take (i := 11) ?h1x11r ?hsx11r ?hfx11r ?hrx11r ?hQx11r (Or.inl ⟨?hwx11r, ?hyx11r⟩) hS ?restx11r
        case h1x11r => (simp only [List.getElem?_toArray, List.getElem?_cons_succ, List.getElem?_cons_zero]; rfl)
        case hsx11r => kernel_rfl
        case hfx11r => kernel_rfl
        case hrx11r => kernel_rfl
        case hQx11r => exact fun _ _ _ h => h
        case hwx11r => rfl
        case hyx11r =>
          intro W hW
          go_simp
          try with_reducible rfl
        simp only [Act.put, List.setIfInBounds_toArray, List.set_cons_succ, List.set_cons_zero]
        refine' wpAnyH_take (i := 4) ?h1x4r ?hsx4r ?hfx4r ?hrx4r ?hQx4r (Or.inl ⟨?hwx4r, ?hyx4r⟩) hS ?restx4r
        case h1x4r => (simp only [List.getElem?_toArray, List.getElem?_cons_succ, List.getElem?_cons_zero]; rfl)
        case hsx4r => kernel_rfl
        case hfx4r => kernel_rfl
        case hrx4r => kernel_rfl
        case hQx4r => exact fun _ _ _ h => h
        case hwx4r => rfl
        case hyx4r =>
          intro W hW
          have dd := CA.out W hW
          go_simp
          try with_reducible rfl
        simp only [Act.put, List.setIfInBounds_toArray, List.set_cons_succ, List.set_cons_zero]
        refine' wpAnyH_take (i := 12) ?h1x12r ?hsx12r ?hfx12r ?hrx12r ?hQx12r (Or.inl ⟨?hwx12r, ?hyx12r⟩) hS ?restx12r
        case h1x12r => (simp only [List.getElem?_toArray, List.getElem?_cons_succ, List.getElem?_cons_zero]; rfl)
        case hsx12r => kernel_rfl
        case hfx12r => kernel_rfl
        case hrx12r => kernel_rfl
        case hQx12r => exact fun _ _ _ h => h
        case hwx12r => rfl
        case hyx12r =>
          intro W hW
          have dd := CA.out W hW
          go_simp
          try with_reducible rfl
        simp only [Act.put, List.setIfInBounds_toArray, List.set_cons_succ, List.set_cons_zero]
        refine' wpAnyH_take (i := 6) ?h1x6r ?hsx6r ?hfx6r ?hrx6r ?hQx6r (Or.inl ⟨?hwx6r, ?hyx6r⟩) hS ?restx6r
        case h1x6r => (simp only [List.getElem?_toArray, List.getElem?_cons_succ, List.getElem?_cons_zero]; rfl)
        case hsx6r => kernel_rfl
        case hfx6r => kernel_rfl
        case hrx6r => kernel_rfl
        case hQx6r => exact fun _ _ _ h => h
        case hwx6r => rfl
        case hyx6r =>
          intro W hW
          go_simp
          try with_reducible rfl
        simp only [Act.put, List.setIfInBounds_toArray, List.set_cons_succ, List.set_cons_zero]
        refine' wpAnyH_take (i := 7) ?h1x7r ?hsx7r ?hfx7r ?hrx7r ?hQx7r (Or.inl ⟨?hwx7r, ?hyx7r⟩) hS ?restx7r
        case h1x7r => (simp only [List.getElem?_toArray, List.getElem?_cons_succ, List.getElem?_cons_zero]; rfl)
        case hsx7r => kernel_rfl
        case hfx7r => kernel_rfl
        case hrx7r => kernel_rfl
        case hQx7r => exact fun _ _ _ h => h
        case hwx7r => rfl
        case hyx7r =>
          intro W hW
          have dd := CN.out W hW
          go_simp
          try with_reducible rfl
        simp only [Act.put, List.setIfInBounds_toArray, List.set_cons_succ, List.set_cons_zero]
        refine' wpAnyH_take (i := 8) ?h1x8r ?hsx8r ?hfx8r ?hrx8r ?hQx8r (Or.inl ⟨?hwx8r, ?hyx8r⟩) hS ?restx8r
        case h1x8r => (simp only [List.getElem?_toArray, List.getElem?_cons_succ, List.getElem?_cons_zero]; rfl)
        case hsx8r => kernel_rfl
        case hfx8r => kernel_rfl
        case hrx8r => kernel_rfl
        case hQx8r => exact fun _ _ _ h => h
        case hwx8r => rfl
        case hyx8r =>
          intro W hW
          have dd := WRP.out
          go_simp
          try with_reducible rfl
        simp only [Act.put, List.setIfInBounds_toArray, List.set_cons_succ, List.set_cons_zero]
        refine wpAnyH_ready (rs := [13]) (by kernel_rfl) (by simp) ?_
        refine' (AllReadyH.cons ?hoc13r (fun K hK => ?stc13r) AllReadyH.nil)
        case hoc13r => (simp only [List.getElem?_toArray, List.getElem?_cons_succ, List.getElem?_cons_zero]; rfl)
        go_simp
        refine (widthN a HA8.out Wrs).mono ?_
        rintro e w' ⟨rfl, rfl⟩
        go_wp2_with fail
        refine hK.out _ _ hS (fun hHeld => ?_)
        clear hK K
        try simp only [Act.put, List.setIfInBounds_toArray, List.set_cons_succ, List.set_cons_zero]
        clear hS
        have hS := hHeld
        clear hHeld
        refine wpAnyH_ready (rs := [14]) (by kernel_rfl) (by simp) ?_
        refine' (AllReadyH.cons ?hoc14rx13 (fun K hK => ?stc14rx13) AllReadyH.nil)
        case hoc14rx13 => (simp only [List.getElem?_toArray, List.getElem?_cons_succ, List.getElem?_cons_zero]; rfl)
        go_simp
        refine (BYT.out Wrs).mono ?_
        rintro e Wrx13x14 ⟨xo, co, rfl, ho, hb⟩
        have BW := Lib.hid (BW.out.trans (hb.mono BW.out.size))
        have SX := Lib.hid ho.sees
        clear ho
        go_wp2_with fail
        refine hK.out _ _ (hS.trans (hb.mono hS.size)) (fun hHeld => ?_)
        clear hK K
        try simp only [Act.put, List.setIfInBounds_toArray, List.set_cons_succ, List.set_cons_zero]
        clear hS
        have hS := hHeld
        clear hHeld
        clear hb
        refine wpAnyH_ready (rs := [15]) (by kernel_rfl) (by simp) ?_
        refine' (AllReadyH.cons ?hoc15rx13x14 (fun K hK => ?stc15rx13x14) AllReadyH.nil)
        case hoc15rx13x14 => (simp only [List.getElem?_toArray, List.getElem?_cons_succ, List.getElem?_cons_zero]; rfl)
        obtain ⟨xz, nz, cz, wz, hr, hd2, hbz⟩ := D.out.app BW.out SX.out (by have h1 := LJ.out; rw [be_len]; rcases wN_cases a with h | h <;> omega)
        refine step_app rfl (.tmp 31) (.tmp 45) rfl rfl rfl rfl hr ?_
        refine hK.out _ _ hbz (fun hHeld => ?_)
        clear hK K
        try simp only [Act.put, List.setIfInBounds_toArray, List.set_cons_succ, List.set_cons_zero]
        have DZ := Lib.hid hd2
        clear hS hr hd2 hbz
        have hS := hHeld
        clear hHeld
        refine' wpAnyH_take (i := 16) ?h1x16rx13x14x15 ?hsx16rx13x14x15 ?hfx16rx13x14x15 ?hrx16rx13x14x15 ?hQx16rx13x14x15 (Or.inl ⟨?hwx16rx13x14x15, ?hyx16rx13x14x15⟩) hS ?restx16rx13x14x15
        case h1x16rx13x14x15 => (simp only [List.getElem?_toArray, List.getElem?_cons_succ, List.getElem?_cons_zero]; rfl)
        case hsx16rx13x14x15 => kernel_rfl
        case hfx16rx13x14x15 => kernel_rfl
        case hrx16rx13x14x15 => kernel_rfl
        case hQx16rx13x14x15 => exact fun _ _ _ h => h
        case hwx16rx13x14x15 => rfl
        case hyx16rx13x14x15 =>
          intro W hW
          go_simp
          try with_reducible rfl
        simp only [Act.put, List.setIfInBounds_toArray, List.set_cons_succ, List.set_cons_zero]
        refine wpAnyH_done (by kernel_rfl) ?_ _
        go_wp2_with fail
        go_roundw
        case rel =>
          refine ⟨j + 1, _, HJ.out, by go_num, rfl, ?_⟩
          have e := out_succ (fnA p) (nA p.k) j a AT.out
          have h := DZ.out
          rw [NM2.out, List.append_assoc] at h
          unfold outN at h ⊢
          rw [e]
          exact h
        case measure => simp [intOf]; have := HJ.out; omega
      · have hje : j = (nA p.k).length := by omega
        subst hje
        have DF : Hid (DW w3 (.slice x1 n1 c1) ([82, p.k] ++ outN p (nA p.k)) wr) := by
          have h := D.out
          rw [List.take_of_length_le (Nat.le_refl _)] at h
          exact h
        clear D hlt hj
        go_upto_region 10 with (fail)
        obtain ⟨wA, hA2⟩ : ∃ x, x = wr := ⟨_, rfl⟩
        rw [← hA2] at DF ⊢
        clear hA2
        go_loopw [7, 9] (fun o i wr => ∃ (j : Nat) (v : Value), j ≤ (nK p.k).length ∧ i = .int .i64 j ∧ o = v ∧ DW w3 v (([82, p.k] ++ outN p (nA p.k)) ++ outK p ((nK p.k).take j)) wr) (fun _ i _ => (nK p.k).length - (intOf i).toNat)
        case atStart => exact ⟨0, _, Nat.zero_le _, rfl, rfl, by simpa [outK] using DF.out⟩
        case round =>
          obtain ⟨j, v, hj, rfl, ho, hdw⟩ := hrel
          obtain ⟨x2, n2, c2, e1⟩ : ∃ x n c, v = Value.slice x n c := by
            obtain ⟨x, c, e⟩ := hdw.2.form
            exact ⟨x, _, c, e⟩
          subst e1
          subst ho
          have D := Lib.hid hdw
          clear hdw
          by_cases hlt : j < (nK p.k).length
          · obtain ⟨a, ha⟩ : ∃ a, (nK p.k)[j]? = some a := ⟨_, List.getElem?_eq_getElem hlt⟩
            have ha4 : a < 4 := SK4.out a (List.mem_of_getElem? ha)
            obtain ⟨ga, e1, cw⟩ := (SK.out.below D.out.1).at ha
            subst e1
            have KS := RK.out wr ((D.out.1.block _ (blk_lt G3.out)).trans G3.out) a ha4
            obtain ⟨xz, nz, cz, wz, hr, hd2, hbz⟩ := D.out.app (Below.refl _ _) KS (by
              have h1 := L1F.out
              have h2 := L2.out j
              have h3 := KLN.out a ha4
              simp only [List.length_append, List.length_cons, List.length_nil]
              omega)
            have HR := Lib.hid hr
            have DZ := Lib.hid hd2
            have AT := Lib.hid ha
            have HJ : Hid (j + 1 ≤ (nK p.k).length) := hlt
            have hj8c : ((j : Nat) : Int) ≤ 100 := by have := LK8.out; omega
            have FIN : Hid (DW w3 (.slice xz nz cz) (([82, p.k] ++ outN p (nA p.k)) ++ outK p ((nK p.k).take (j + 1))) wz) := by
              have e := out_succ (keyA p) (nK p.k) j a AT.out
              have h := DZ.out
              rw [List.append_assoc] at h
              unfold outK at h ⊢
              rw [e]
              exact h
            have h4 : a = 0 ∨ a = 1 ∨ a = 2 ∨ a = 3 := by omega
            clear hr hd2 hbz ha KS DZ AT
            rcases h4 with rfl | rfl | rfl | rfl
            all_goals
              go_wp2_with (at_builtin; refine wpList_app rfl (.tmp 53) (.tmp 60) rfl rfl rfl rfl HR.out ?_)
              go_roundw
              case rel => exact ⟨j + 1, _, HJ.out, by go_num, rfl, FIN.out⟩
              case measure => simp [intOf]; have := HJ.out; omega
          · have hje : j = (nK p.k).length := by omega
            subst hje
            have DF2 : Hid (DW w3 (.slice x2 n2 c2) (([82, p.k] ++ outN p (nA p.k)) ++ outK p (nK p.k)) wr) := by
              have h := D.out
              rw [List.take_of_length_le (Nat.le_refl _)] at h
              exact h
            clear D hlt hj DF
            obtain ⟨wB, hB2⟩ : ∃ x, x = wr := ⟨_, rfl⟩
            rw [← hB2] at DF2 ⊢
            clear hB2
            go_upto_region 14 with (fail)
            go_loopw [7, 10] (fun o i wr => ∃ (j : Nat) (v : Value), j ≤ (nB p.k).length ∧ i = .int .i64 j ∧ o = v ∧ DW w3 v ((([82, p.k] ++ outN p (nA p.k)) ++ outK p (nK p.k)) ++ outN p ((nB p.k).take j)) wr) (fun _ i _ => (nB p.k).length - (intOf i).toNat)
            case atStart => exact ⟨0, _, Nat.zero_le _, rfl, rfl, by simpa [outN] using DF2.out⟩
            case round =>
              obtain ⟨j, v, hj, rfl, ho, hdw⟩ := hrel
              obtain ⟨x1, n1, c1, e1⟩ : ∃ x n c, v = Value.slice x n c := by
                obtain ⟨x, c, e⟩ := hdw.2.form
                exact ⟨x, _, c, e⟩
              subst e1
              subst ho
              have D := Lib.hid hdw
              clear hdw
              by_cases hlt : j < (nB p.k).length
              · obtain ⟨a, ha⟩ : ∃ a, (nB p.k)[j]? = some a := ⟨_, List.getElem?_eq_getElem hlt⟩
                have ha8 : a < 8 := SB8.out a (List.mem_of_getElem? ha)
                obtain ⟨ga, e1, _⟩ := SB.out.at ha
                subst e1
                have CA : Hid (∀ W, Below w3.heap.size w3 W → W.cell? ⟨ga, j, none⟩ = some (.int .i64 a)) := fun W h => by
                  obtain ⟨g', e2, h2⟩ := (SB.out.below h).at ha
                  cases e2
                  exact h2
                have CN : Hid (∀ W, Below w3.heap.size w3 W → W.cell? ⟨w.heap.size, 1 + a, none⟩ = some (.int .i64 (numA p a))) := fun W h => (RW.out W ((h.block _ (blk_lt G3.out)).trans G3.out)).2.1 a ha8
                obtain ⟨nm, hnm⟩ : ∃ m, m = numA p a % 18446744073709551616 := ⟨_, rfl⟩
                have WRP : Hid (IntKind.u64.wrap (numA p a) = nm) := by show _ = _; rw [hnm]; rfl
                have BYT : Hid (∀ W : World, Calls Try.prog 22 #[.int .u64 nm, .int .i64 (wN a : Nat)] W (OwnP W (be (wN a) nm))) := fun W => octetPuts.refBytes nm (wN a) (by rcases wN_cases a with h | h <;> omega) (by omega) (by omega) W
                have NM2 : Hid (be (wN a) nm = fnA p a) := by show _ = _; rw [hnm]; exact be_u64 _ (wN_cases a) _
                have LJ : Hid (((([82, p.k] ++ outN p (nA p.k)) ++ outK p (nK p.k)) ++ outN p ((nB p.k).take j)).length ≤ 2000) := by
                  have h1 := L3.out j
                  have h2 := L1.out 8
                  have h3 := L1F.out
                  have h4 := L2F.out
                  show _ ≤ _
                  simp only [List.length_append, List.length_cons, List.length_nil]
                  omega
                have AT := Lib.hid ha
                have HA8 := Lib.hid ha8
                have HJ : Hid (j + 1 ≤ (nB p.k).length) := hlt
                have BW := Lib.hid (Below.refl wr.heap.size wr)
                clear hnm ha
                generalize numA p a = nv at CN WRP
                have hlc : ((j : Nat) : Int) < ((nB p.k).length : Int) := by omega
                have ha8c : ((a : Nat) : Int) < 8 := by omega
                have hj8c : ((j : Nat) : Int) ≤ 100 := by have := LB8.out; omega
                go_wp2_with fail
                refine wp_region_held_drew (S := fun W => Below w3.heap.size w3 W) (by kernel_rfl) (D.out.1.drew) (fun hS => ?_)
                have hb0 : Below wr.heap.size wr wr.drew := (Below.refl _ _).drew
                have qBW := BW.out.trans (hb0.mono BW.out.size)
                clear hb0 BW
                generalize wr.drew = Wqs at hS qBW ⊢
                have BW := Lib.hid qBW
                clear qBW
                refine' wpAnyH_take (i := 0) ?h1x0q ?hsx0q ?hfx0q ?hrx0q ?hQx0q (Or.inl ⟨?hwx0q, ?hyx0q⟩) hS ?restx0q
                case h1x0q => (simp only [List.getElem?_toArray, List.getElem?_cons_zero]; rfl)
                case hsx0q => kernel_rfl
                case hfx0q => kernel_rfl
                case hrx0q => kernel_rfl
                case hQx0q => exact fun _ _ _ h => h
                case hwx0q => rfl
                case hyx0q =>
                  intro W hW
                  go_simp
                  try with_reducible rfl
                simp only [Act.put, List.setIfInBounds_toArray, List.set_cons_succ, List.set_cons_zero]
                refine' wpAnyH_take (i := 1) ?h1x1q ?hsx1q ?hfx1q ?hrx1q ?hQx1q (Or.inl ⟨?hwx1q, ?hyx1q⟩) hS ?restx1q
                case h1x1q => (simp only [List.getElem?_toArray, List.getElem?_cons_succ, List.getElem?_cons_zero]; rfl)
                case hsx1q => kernel_rfl
                case hfx1q => kernel_rfl
                case hrx1q => kernel_rfl
                case hQx1q => exact fun _ _ _ h => h
                case hwx1q => rfl
                case hyx1q =>
                  intro W hW
                  go_simp
                  try with_reducible rfl
                simp only [Act.put, List.setIfInBounds_toArray, List.set_cons_succ, List.set_cons_zero]
                refine' wpAnyH_take (i := 2) ?h1x2q ?hsx2q ?hfx2q ?hrx2q ?hQx2q (Or.inl ⟨?hwx2q, ?hyx2q⟩) hS ?restx2q
                case h1x2q => (simp only [List.getElem?_toArray, List.getElem?_cons_succ, List.getElem?_cons_zero]; rfl)
                case hsx2q => kernel_rfl
                case hfx2q => kernel_rfl
                case hrx2q => kernel_rfl
                case hQx2q => exact fun _ _ _ h => h
                case hwx2q => rfl
                case hyx2q =>
                  intro W hW
                  go_simp
                  try with_reducible rfl
                simp only [Act.put, List.setIfInBounds_toArray, List.set_cons_succ, List.set_cons_zero]
                refine' wpAnyH_take (i := 5) ?h1x5q ?hsx5q ?hfx5q ?hrx5q ?hQx5q (Or.inl ⟨?hwx5q, ?hyx5q⟩) hS ?restx5q
                case h1x5q => (simp only [List.getElem?_toArray, List.getElem?_cons_succ, List.getElem?_cons_zero]; rfl)
                case hsx5q => kernel_rfl
                case hfx5q => kernel_rfl
                case hrx5q => kernel_rfl
                case hQx5q => exact fun _ _ _ h => h
                case hwx5q => rfl
                case hyx5q =>
                  intro W hW
                  go_simp
                  try with_reducible rfl
                simp only [Act.put, List.setIfInBounds_toArray, List.set_cons_succ, List.set_cons_zero]
                refine' wpAnyH_take (i := 9) ?h1x9q ?hsx9q ?hfx9q ?hrx9q ?hQx9q (Or.inl ⟨?hwx9q, ?hyx9q⟩) hS ?restx9q
                case h1x9q => (simp only [List.getElem?_toArray, List.getElem?_cons_succ, List.getElem?_cons_zero]; rfl)
                case hsx9q => kernel_rfl
                case hfx9q => kernel_rfl
                case hrx9q => kernel_rfl
                case hQx9q => exact fun _ _ _ h => h
                case hwx9q => rfl
                case hyx9q =>
                  intro W hW
                  go_simp
                  try with_reducible rfl
                simp only [Act.put, List.setIfInBounds_toArray, List.set_cons_succ, List.set_cons_zero]
                refine' wpAnyH_take (i := 10) ?h1x10q ?hsx10q ?hfx10q ?hrx10q ?hQx10q (Or.inl ⟨?hwx10q, ?hyx10q⟩) hS ?restx10q
                case h1x10q => (simp only [List.getElem?_toArray, List.getElem?_cons_succ, List.getElem?_cons_zero]; rfl)
                case hsx10q => kernel_rfl
                case hfx10q => kernel_rfl
                case hrx10q => kernel_rfl
                case hQx10q => exact fun _ _ _ h => h
                case hwx10q => rfl
                case hyx10q =>
                  intro W hW
                  go_simp
                  try with_reducible rfl
                simp only [Act.put, List.setIfInBounds_toArray, List.set_cons_succ, List.set_cons_zero]
                refine' wpAnyH_take (i := 3) ?h1x3q ?hsx3q ?hfx3q ?hrx3q ?hQx3q (Or.inl ⟨?hwx3q, ?hyx3q⟩) hS ?restx3q
                case h1x3q => (simp only [List.getElem?_toArray, List.getElem?_cons_succ, List.getElem?_cons_zero]; rfl)
                case hsx3q => kernel_rfl
                case hfx3q => kernel_rfl
                case hrx3q => kernel_rfl
                case hQx3q => exact fun _ _ _ h => h
                case hwx3q => rfl
                case hyx3q =>
                  intro W hW
                  go_simp
                  try with_reducible rfl
                simp only [Act.put, List.setIfInBounds_toArray, List.set_cons_succ, List.set_cons_zero]
                refine' wpAnyH_take (i := 11) ?h1x11q ?hsx11q ?hfx11q ?hrx11q ?hQx11q (Or.inl ⟨?hwx11q, ?hyx11q⟩) hS ?restx11q
                case h1x11q => (simp only [List.getElem?_toArray, List.getElem?_cons_succ, List.getElem?_cons_zero]; rfl)
                case hsx11q => kernel_rfl
                case hfx11q => kernel_rfl
                case hrx11q => kernel_rfl
                case hQx11q => exact fun _ _ _ h => h
                case hwx11q => rfl
                case hyx11q =>
                  intro W hW
                  go_simp
                  try with_reducible rfl
                simp only [Act.put, List.setIfInBounds_toArray, List.set_cons_succ, List.set_cons_zero]
                refine' wpAnyH_take (i := 4) ?h1x4q ?hsx4q ?hfx4q ?hrx4q ?hQx4q (Or.inl ⟨?hwx4q, ?hyx4q⟩) hS ?restx4q
                case h1x4q => (simp only [List.getElem?_toArray, List.getElem?_cons_succ, List.getElem?_cons_zero]; rfl)
                case hsx4q => kernel_rfl
                case hfx4q => kernel_rfl
                case hrx4q => kernel_rfl
                case hQx4q => exact fun _ _ _ h => h
                case hwx4q => rfl
                case hyx4q =>
                  intro W hW
                  have dd := CA.out W hW
                  go_simp
                  try with_reducible rfl
                simp only [Act.put, List.setIfInBounds_toArray, List.set_cons_succ, List.set_cons_zero]
                refine' wpAnyH_take (i := 12) ?h1x12q ?hsx12q ?hfx12q ?hrx12q ?hQx12q (Or.inl ⟨?hwx12q, ?hyx12q⟩) hS ?restx12q
                case h1x12q => (simp only [List.getElem?_toArray, List.getElem?_cons_succ, List.getElem?_cons_zero]; rfl)
                case hsx12q => kernel_rfl
                case hfx12q => kernel_rfl
                case hrx12q => kernel_rfl
                case hQx12q => exact fun _ _ _ h => h
                case hwx12q => rfl
                case hyx12q =>
                  intro W hW
                  have dd := CA.out W hW
                  go_simp
                  try with_reducible rfl
                simp only [Act.put, List.setIfInBounds_toArray, List.set_cons_succ, List.set_cons_zero]
                refine' wpAnyH_take (i := 6) ?h1x6q ?hsx6q ?hfx6q ?hrx6q ?hQx6q (Or.inl ⟨?hwx6q, ?hyx6q⟩) hS ?restx6q
                case h1x6q => (simp only [List.getElem?_toArray, List.getElem?_cons_succ, List.getElem?_cons_zero]; rfl)
                case hsx6q => kernel_rfl
                case hfx6q => kernel_rfl
                case hrx6q => kernel_rfl
                case hQx6q => exact fun _ _ _ h => h
                case hwx6q => rfl
                case hyx6q =>
                  intro W hW
                  go_simp
                  try with_reducible rfl
                simp only [Act.put, List.setIfInBounds_toArray, List.set_cons_succ, List.set_cons_zero]
                refine' wpAnyH_take (i := 7) ?h1x7q ?hsx7q ?hfx7q ?hrx7q ?hQx7q (Or.inl ⟨?hwx7q, ?hyx7q⟩) hS ?restx7q
                case h1x7q => (simp only [List.getElem?_toArray, List.getElem?_cons_succ, List.getElem?_cons_zero]; rfl)
                case hsx7q => kernel_rfl
                case hfx7q => kernel_rfl
                case hrx7q => kernel_rfl
                case hQx7q => exact fun _ _ _ h => h
                case hwx7q => rfl
                case hyx7q =>
                  intro W hW
                  have dd := CN.out W hW
                  go_simp
                  try with_reducible rfl
                simp only [Act.put, List.setIfInBounds_toArray, List.set_cons_succ, List.set_cons_zero]
                refine' wpAnyH_take (i := 8) ?h1x8q ?hsx8q ?hfx8q ?hrx8q ?hQx8q (Or.inl ⟨?hwx8q, ?hyx8q⟩) hS ?restx8q
                case h1x8q => (simp only [List.getElem?_toArray, List.getElem?_cons_succ, List.getElem?_cons_zero]; rfl)
                case hsx8q => kernel_rfl
                case hfx8q => kernel_rfl
                case hrx8q => kernel_rfl
                case hQx8q => exact fun _ _ _ h => h
                case hwx8q => rfl
                case hyx8q =>
                  intro W hW
                  have dd := WRP.out
                  go_simp
                  try with_reducible rfl
                simp only [Act.put, List.setIfInBounds_toArray, List.set_cons_succ, List.set_cons_zero]
                refine wpAnyH_ready (rs := [13]) (by kernel_rfl) (by simp) ?_
                refine' (AllReadyH.cons ?hoc13q (fun K hK => ?stc13q) AllReadyH.nil)
                case hoc13q => (simp only [List.getElem?_toArray, List.getElem?_cons_succ, List.getElem?_cons_zero]; rfl)
                go_simp
                refine (widthN a HA8.out Wqs).mono ?_
                rintro e w' ⟨rfl, rfl⟩
                go_wp2_with fail
                refine hK.out _ _ hS (fun hHeld => ?_)
                clear hK K
                try simp only [Act.put, List.setIfInBounds_toArray, List.set_cons_succ, List.set_cons_zero]
                clear hS
                have hS := hHeld
                clear hHeld
                refine wpAnyH_ready (rs := [14]) (by kernel_rfl) (by simp) ?_
                refine' (AllReadyH.cons ?hoc14qx13 (fun K hK => ?stc14qx13) AllReadyH.nil)
                case hoc14qx13 => (simp only [List.getElem?_toArray, List.getElem?_cons_succ, List.getElem?_cons_zero]; rfl)
                go_simp
                refine (BYT.out Wqs).mono ?_
                rintro e Wqx13x14 ⟨xo, co, rfl, ho, hb⟩
                have BW := Lib.hid (BW.out.trans (hb.mono BW.out.size))
                have SX := Lib.hid ho.sees
                clear ho
                go_wp2_with fail
                refine hK.out _ _ (hS.trans (hb.mono hS.size)) (fun hHeld => ?_)
                clear hK K
                try simp only [Act.put, List.setIfInBounds_toArray, List.set_cons_succ, List.set_cons_zero]
                clear hS
                have hS := hHeld
                clear hHeld
                clear hb
                refine wpAnyH_ready (rs := [15]) (by kernel_rfl) (by simp) ?_
                refine' (AllReadyH.cons ?hoc15qx13x14 (fun K hK => ?stc15qx13x14) AllReadyH.nil)
                case hoc15qx13x14 => (simp only [List.getElem?_toArray, List.getElem?_cons_succ, List.getElem?_cons_zero]; rfl)
                obtain ⟨xz, nz, cz, wz, hr, hd2, hbz⟩ := D.out.app BW.out SX.out (by have h1 := LJ.out; rw [be_len]; rcases wN_cases a with h | h <;> omega)
                refine step_app rfl (.tmp 68) (.tmp 82) rfl rfl rfl rfl hr ?_
                refine hK.out _ _ hbz (fun hHeld => ?_)
                clear hK K
                try simp only [Act.put, List.setIfInBounds_toArray, List.set_cons_succ, List.set_cons_zero]
                have DZ := Lib.hid hd2
                clear hS hr hd2 hbz
                have hS := hHeld
                clear hHeld
                refine' wpAnyH_take (i := 16) ?h1x16qx13x14x15 ?hsx16qx13x14x15 ?hfx16qx13x14x15 ?hrx16qx13x14x15 ?hQx16qx13x14x15 (Or.inl ⟨?hwx16qx13x14x15, ?hyx16qx13x14x15⟩) hS ?restx16qx13x14x15
                case h1x16qx13x14x15 => (simp only [List.getElem?_toArray, List.getElem?_cons_succ, List.getElem?_cons_zero]; rfl)
                case hsx16qx13x14x15 => kernel_rfl
                case hfx16qx13x14x15 => kernel_rfl
                case hrx16qx13x14x15 => kernel_rfl
                case hQx16qx13x14x15 => exact fun _ _ _ h => h
                case hwx16qx13x14x15 => rfl
                case hyx16qx13x14x15 =>
                  intro W hW
                  go_simp
                  try with_reducible rfl
                simp only [Act.put, List.setIfInBounds_toArray, List.set_cons_succ, List.set_cons_zero]
                refine wpAnyH_done (by kernel_rfl) ?_ _
                go_wp2_with fail
                go_roundw
                case rel =>
                  refine ⟨j + 1, _, HJ.out, by go_num, rfl, ?_⟩
                  have e := out_succ (fnA p) (nB p.k) j a AT.out
                  have h := DZ.out
                  rw [NM2.out, List.append_assoc] at h
                  unfold outN at h ⊢
                  rw [e]
                  exact h
                case measure => simp [intOf]; have := HJ.out; omega
              · have hje : j = (nB p.k).length := by omega
                subst hje
                have DF : Hid (DW w3 (.slice x1 n1 c1) ((([82, p.k] ++ outN p (nA p.k)) ++ outK p (nK p.k)) ++ outN p (nB p.k)) wr) := by
                  have h := D.out
                  rw [List.take_of_length_le (Nat.le_refl _)] at h
                  exact h
                clear D hlt hj
                clear DF2
                have h3 := SD.out wr (B3.out.trans (DF.out.1.mono B3.out.size))
                have cd := (RW.out wr ((DF.out.1.block _ (blk_lt G3.out)).trans G3.out)).2.2
                obtain ⟨xz, nz, cz, wz, hr, hd2, hbz⟩ := DF.out.app (Below.refl _ _) h3 (by
                  have h1 := L1F.out
                  have h2 := L2F.out
                  have h3 := L3F.out
                  have h4 := HP5.out
                  simp only [List.length_append, List.length_cons, List.length_nil]
                  omega)
                have HR := Lib.hid hr
                have YF := Lib.hid (YES'.out wz _ _ (B3.out.trans (hbz.mono B3.out.size)) hd2.2)
                clear hr hd2 hbz h3
                go_wp2_with (at_builtin; refine wpList_app rfl (.tmp 84) (.tmp 86) rfl rfl rfl rfl HR.out ?_)
                exact YF.out
end Go.Proofs.Ytdohggpajhkkhaa
