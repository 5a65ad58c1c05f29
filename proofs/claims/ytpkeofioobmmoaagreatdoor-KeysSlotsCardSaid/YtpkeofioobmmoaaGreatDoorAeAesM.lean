/-
  Plain words and lemmas: AES over lists of bytes: each round has its opposite, so a block that is turned and turned back is as it was. No condition.
-/
import Derived.Test.YtpkeofioobmmoaaGreatDoorAeM
namespace Go.Proofs.YtpkeofioobmmoaaGreatDoor.ae
/-- A list of so many bytes. -/
def Bts (n : Nat) (l : List Nat) : Prop := l.length = n ∧ ∀ x ∈ l, x < 256
def at_ (l : List Nat) (i : Nat) : Nat := l.getD i 0
theorem Bts.at_lt {n : Nat} {l : List Nat} (h : Bts n l) (i : Nat) : at_ l i < 256 := by
  unfold at_
  by_cases hi : i < l.length
  · have e : l.getD i 0 = l[i] := by simp [List.getD, hi]
    rw [e]; exact h.2 _ (List.getElem_mem hi)
  · have e : l.getD i 0 = 0 := by simp [List.getD, List.getElem?_eq_none (show l.length ≤ i by omega)]
    rw [e]; omega
/-- A row by its places. -/
def tab (n : Nat) (f : Nat → Nat) : List Nat := (List.range n).map f
theorem tab_len (n : Nat) (f : Nat → Nat) : (tab n f).length = n := by simp [tab]
theorem tab_at (n : Nat) (f : Nat → Nat) (i : Nat) (h : i < n) : at_ (tab n f) i = f i := by simp [tab, at_, List.getD, h]
theorem tab_bts {n : Nat} {f : Nat → Nat} (h : ∀ i, i < n → f i < 256) : Bts n (tab n f) := ⟨tab_len n f, fun x hx => by
  obtain ⟨i, hi, rfl⟩ := List.mem_map.1 hx
  exact h i (List.mem_range.1 hi)⟩
theorem tab_self (n : Nat) (l : List Nat) (h : l.length = n) : tab n (at_ l) = l := by
  apply List.ext_getElem?
  intro i
  by_cases hi : i < n
  · simp [tab, at_, List.getD, hi, h]
  · rw [List.getElem?_eq_none (by rw [tab_len]; omega), List.getElem?_eq_none (by omega)]
theorem tab_congr {n : Nat} {f g : Nat → Nat} (h : ∀ i, i < n → f i = g i) : tab n f = tab n g := by
  unfold tab
  exact List.map_congr_left fun i hi => h i (List.mem_range.1 hi)
/-- A block xor'ed with a key. -/
def jn (b k : List Nat) : List Nat := tab 16 fun i => Nat.xor (at_ b i) (at_ k i)
/-- A block of what a table has for each byte. -/
def sb (t b : List Nat) : List Nat := tab 16 fun i => at_ t (at_ b i)
/-- A block whose rows are moved. -/
def mv (by_ : Nat) (b : List Nat) : List Nat := tab 16 fun i => at_ b ((i + 4 * by_ * (i % 4)) % 16)
/-- A block whose columns are multiplied. -/
def mx (f0 f1 f2 f3 : Nat) (b : List Nat) : List Nat := tab 16 fun i =>
  Nat.xor (Nat.xor (Nat.xor (mul (at_ b (i - i % 4 + i % 4)) f0) (mul (at_ b (i - i % 4 + (i + 1) % 4)) f1)) (mul (at_ b (i - i % 4 + (i + 2) % 4)) f2)) (mul (at_ b (i - i % 4 + (i + 3) % 4)) f3)
theorem jn_bts {b k : List Nat} (hb : Bts 16 b) (hk : Bts 16 k) : Bts 16 (jn b k) := tab_bts fun i _ => xor_lt (hb.at_lt i) (hk.at_lt i)
theorem sb_bts {t b : List Nat} {n : Nat} (ht : Bts n t) : Bts 16 (sb t b) := tab_bts fun _ _ => ht.at_lt _
theorem mv_bts {b : List Nat} (k : Nat) (hb : Bts 16 b) : Bts 16 (mv k b) := tab_bts fun _ _ => hb.at_lt _
theorem mx_bts {b : List Nat} (f0 f1 f2 f3 : Nat) (hb : Bts 16 b) : Bts 16 (mx f0 f1 f2 f3 b) :=
  tab_bts fun _ _ => xor_lt (xor_lt (xor_lt (mul_lt _ (hb.at_lt _)) (mul_lt _ (hb.at_lt _))) (mul_lt _ (hb.at_lt _))) (mul_lt _ (hb.at_lt _))
theorem jn_jn {b k : List Nat} (hb : Bts 16 b) : jn (jn b k) k = b := by
  unfold jn
  refine Eq.trans (tab_congr fun i hi => ?_) (tab_self 16 b hb.1)
  rw [tab_at _ _ _ hi, xa, xx, x0]
theorem mv_31 {b : List Nat} (hb : Bts 16 b) : mv 3 (mv 1 b) = b := by
  unfold mv
  refine Eq.trans (tab_congr fun i hi => ?_) (tab_self 16 b hb.1)
  rw [tab_at _ _ _ (Nat.mod_lt _ (by omega))]
  congr 1
  omega
/-- The table of boxes, and the other way round. -/
def bxs : List Nat := tab 256 box
def kxs : List Nat := krow 256
theorem bxs_bts : Bts 256 bxs := tab_bts fun _ h => box_lt h
theorem kxs_all : alln (fun a => Nat.blt (at_ kxs a) 256) 256 = true := by decide +kernel
theorem bts_of {l : List Nat} {n : Nat} (hl : l.length = n) (h : ∀ i, i < n → at_ l i < 256) : Bts n l := ⟨hl, fun x hx => by
  obtain ⟨i, hi, rfl⟩ := List.mem_iff_getElem.1 hx
  have e : at_ l i = l[i] := by simp [at_, List.getD, hi]
  rw [← e]; exact h i (by omega)⟩
theorem kxs_bts : Bts 256 kxs := bts_of (krow_len 256) fun i hi => Nat.le_of_ble_eq_true (alln_of kxs_all i hi)
theorem kb {a : Nat} (h : a < 256) : at_ kxs (box a) = a := Nat.eq_of_beq_eq_true (alln_of krow_all a h)
theorem bk_all : alln (fun a => Nat.beq (box (at_ kxs a)) a) 256 = true := by decide +kernel
theorem bk {a : Nat} (h : a < 256) : box (at_ kxs a) = a := Nat.eq_of_beq_eq_true (alln_of bk_all a h)
theorem sb_kb {b : List Nat} (hb : Bts 16 b) : sb kxs (sb bxs b) = b := by
  unfold sb
  refine Eq.trans (tab_congr fun i hi => ?_) (tab_self 16 b hb.1)
  rw [tab_at _ _ _ hi]
  show at_ kxs (at_ (tab 256 box) (at_ b i)) = _
  rw [tab_at _ _ _ (hb.at_lt i), kb (hb.at_lt i)]
/-- Four products of four sums of four products: by what each byte is multiplied in all. -/
theorem four {a b c d : Nat} (ha : a < 256) (hb : b < 256) (hc : c < 256) (hd : d < 256) (f0 f1 f2 f3 g0 g1 g2 g3 : Nat) (hf0 : f0 < 256) (hf1 : f1 < 256) (hf2 : f2 < 256) (hf3 : f3 < 256) (hg0 : g0 < 256) (hg1 : g1 < 256) (hg2 : g2 < 256) (hg3 : g3 < 256)
    (e0 : Nat.xor (Nat.xor (Nat.xor (mul f0 g0) (mul f3 g1)) (mul f2 g2)) (mul f1 g3) = 1) (e1 : Nat.xor (Nat.xor (Nat.xor (mul f1 g0) (mul f0 g1)) (mul f3 g2)) (mul f2 g3) = 0)
    (e2 : Nat.xor (Nat.xor (Nat.xor (mul f2 g0) (mul f1 g1)) (mul f0 g2)) (mul f3 g3) = 0) (e3 : Nat.xor (Nat.xor (Nat.xor (mul f3 g0) (mul f2 g1)) (mul f1 g2)) (mul f0 g3) = 0) :
    Nat.xor (Nat.xor (Nat.xor
      (mul (Nat.xor (Nat.xor (Nat.xor (mul a f0) (mul b f1)) (mul c f2)) (mul d f3)) g0)
      (mul (Nat.xor (Nat.xor (Nat.xor (mul b f0) (mul c f1)) (mul d f2)) (mul a f3)) g1))
      (mul (Nat.xor (Nat.xor (Nat.xor (mul c f0) (mul d f1)) (mul a f2)) (mul b f3)) g2))
      (mul (Nat.xor (Nat.xor (Nat.xor (mul d f0) (mul a f1)) (mul b f2)) (mul c f3)) g3) = a := by
  have dist : ∀ (p q r s g : Nat), p < 256 → q < 256 → r < 256 → s < 256 → mul (Nat.xor (Nat.xor (Nat.xor p q) r) s) g = Nat.xor (Nat.xor (Nat.xor (mul p g) (mul q g)) (mul r g)) (mul s g) := fun p q r s g hp hq hr hs => by
    rw [xor_mul g (xor_lt (xor_lt hp hq) hr) hs, xor_mul g (xor_lt hp hq) hr, xor_mul g hp hq]
  have back : ∀ (p u v x y : Nat), p < 256 → u < 256 → v < 256 → x < 256 → y < 256 → Nat.xor (Nat.xor (Nat.xor (mul p u) (mul p v)) (mul p x)) (mul p y) = mul p (Nat.xor (Nat.xor (Nat.xor u v) x) y) := fun p u v x y hp hu hv hx hy => by
    rw [mul_xor hp (xor_lt (xor_lt hu hv) hx) hy, mul_xor hp (xor_lt hu hv) hx, mul_xor hp hu hv]
  have l : ∀ {p : Nat} (q : Nat), p < 256 → mul p q < 256 := fun q h => mul_lt q h
  rw [dist _ _ _ _ g0 (l f0 ha) (l f1 hb) (l f2 hc) (l f3 hd), dist _ _ _ _ g1 (l f0 hb) (l f1 hc) (l f2 hd) (l f3 ha), dist _ _ _ _ g2 (l f0 hc) (l f1 hd) (l f2 ha) (l f3 hb), dist _ _ _ _ g3 (l f0 hd) (l f1 ha) (l f2 hb) (l f3 hc)]
  rw [assoc ha hf0 hg0, assoc hb hf1 hg0, assoc hc hf2 hg0, assoc hd hf3 hg0, assoc hb hf0 hg1, assoc hc hf1 hg1, assoc hd hf2 hg1, assoc ha hf3 hg1,
    assoc hc hf0 hg2, assoc hd hf1 hg2, assoc ha hf2 hg2, assoc hb hf3 hg2, assoc hd hf0 hg3, assoc ha hf1 hg3, assoc hb hf2 hg3, assoc hc hf3 hg3]
  have A := back a (mul f0 g0) (mul f3 g1) (mul f2 g2) (mul f1 g3) ha (l _ hf0) (l _ hf3) (l _ hf2) (l _ hf1)
  have B := back b (mul f1 g0) (mul f0 g1) (mul f3 g2) (mul f2 g3) hb (l _ hf1) (l _ hf0) (l _ hf3) (l _ hf2)
  have C := back c (mul f2 g0) (mul f1 g1) (mul f0 g2) (mul f3 g3) hc (l _ hf2) (l _ hf1) (l _ hf0) (l _ hf3)
  have D := back d (mul f3 g0) (mul f2 g1) (mul f1 g2) (mul f0 g3) hd (l _ hf3) (l _ hf2) (l _ hf1) (l _ hf0)
  rw [e0, mul_one ha] at A
  rw [e1, mul_zero] at B
  rw [e2, mul_zero] at C
  rw [e3, mul_zero] at D
  generalize mul a (mul f0 g0) = a0 at *
  generalize mul a (mul f3 g1) = a1 at *
  generalize mul a (mul f2 g2) = a2 at *
  generalize mul a (mul f1 g3) = a3 at *
  generalize mul b (mul f1 g0) = b0 at *
  generalize mul b (mul f0 g1) = b1 at *
  generalize mul b (mul f3 g2) = b2 at *
  generalize mul b (mul f2 g3) = b3 at *
  generalize mul c (mul f2 g0) = c0 at *
  generalize mul c (mul f1 g1) = c1 at *
  generalize mul c (mul f0 g2) = c2 at *
  generalize mul c (mul f3 g3) = c3 at *
  generalize mul d (mul f3 g0) = d0 at *
  generalize mul d (mul f2 g1) = d1 at *
  generalize mul d (mul f1 g2) = d2 at *
  generalize mul d (mul f0 g3) = d3 at *
  have key : Nat.xor (Nat.xor (Nat.xor (Nat.xor (Nat.xor (Nat.xor a0 b0) c0) d0) (Nat.xor (Nat.xor (Nat.xor b1 c1) d1) a1)) (Nat.xor (Nat.xor (Nat.xor c2 d2) a2) b2)) (Nat.xor (Nat.xor (Nat.xor d3 a3) b3) c3) =
      Nat.xor (Nat.xor (Nat.xor (Nat.xor (Nat.xor (Nat.xor a0 a1) a2) a3) (Nat.xor (Nat.xor (Nat.xor b0 b1) b2) b3)) (Nat.xor (Nat.xor (Nat.xor c0 c1) c2) c3)) (Nat.xor (Nat.xor (Nat.xor d0 d1) d2) d3) := by
    show a0 ^^^ b0 ^^^ c0 ^^^ d0 ^^^ (b1 ^^^ c1 ^^^ d1 ^^^ a1) ^^^ (c2 ^^^ d2 ^^^ a2 ^^^ b2) ^^^ (d3 ^^^ a3 ^^^ b3 ^^^ c3) = a0 ^^^ a1 ^^^ a2 ^^^ a3 ^^^ (b0 ^^^ b1 ^^^ b2 ^^^ b3) ^^^ (c0 ^^^ c1 ^^^ c2 ^^^ c3) ^^^ (d0 ^^^ d1 ^^^ d2 ^^^ d3)
    ac_rfl
  rw [key, A, B, C, D, x0, x0, x0]
theorem mx_at (f0 f1 f2 f3 : Nat) (b : List Nat) (q c : Nat) (hq : q % 4 = 0) (hq16 : q < 16) (hc : c < 4) : at_ (mx f0 f1 f2 f3 b) (q + c) =
    Nat.xor (Nat.xor (Nat.xor (mul (at_ b (q + c % 4)) f0) (mul (at_ b (q + (c + 1) % 4)) f1)) (mul (at_ b (q + (c + 2) % 4)) f2)) (mul (at_ b (q + (c + 3) % 4)) f3) := by
  unfold mx
  rw [tab_at _ _ _ (by omega)]
  have e0 : (q + c) - (q + c) % 4 + (q + c) % 4 = q + c % 4 := by omega
  have e1 : (q + c) - (q + c) % 4 + (q + c + 1) % 4 = q + (c + 1) % 4 := by omega
  have e2 : (q + c) - (q + c) % 4 + (q + c + 2) % 4 = q + (c + 2) % 4 := by omega
  have e3 : (q + c) - (q + c) % 4 + (q + c + 3) % 4 = q + (c + 3) % 4 := by omega
  rw [e0, e1, e2, e3]
theorem mx_two {b : List Nat} (hb : Bts 16 b) (f0 f1 f2 f3 g0 g1 g2 g3 : Nat) (hf0 : f0 < 256) (hf1 : f1 < 256) (hf2 : f2 < 256) (hf3 : f3 < 256) (hg0 : g0 < 256) (hg1 : g1 < 256) (hg2 : g2 < 256) (hg3 : g3 < 256)
    (e0 : Nat.xor (Nat.xor (Nat.xor (mul f0 g0) (mul f3 g1)) (mul f2 g2)) (mul f1 g3) = 1) (e1 : Nat.xor (Nat.xor (Nat.xor (mul f1 g0) (mul f0 g1)) (mul f3 g2)) (mul f2 g3) = 0)
    (e2 : Nat.xor (Nat.xor (Nat.xor (mul f2 g0) (mul f1 g1)) (mul f0 g2)) (mul f3 g3) = 0) (e3 : Nat.xor (Nat.xor (Nat.xor (mul f3 g0) (mul f2 g1)) (mul f1 g2)) (mul f0 g3) = 0) :
    mx g0 g1 g2 g3 (mx f0 f1 f2 f3 b) = b := by
  have h := fun i => hb.at_lt i
  have F := fun (a b c d : Nat) (ha : a < 256) (hb : b < 256) (hc : c < 256) (hd : d < 256) => four ha hb hc hd f0 f1 f2 f3 g0 g1 g2 g3 hf0 hf1 hf2 hf3 hg0 hg1 hg2 hg3 e0 e1 e2 e3
  have go : ∀ i, i < 16 → at_ (mx g0 g1 g2 g3 (mx f0 f1 f2 f3 b)) i = at_ b i := by
    intro i hi
    obtain ⟨q, c, rfl, hq, hc⟩ : ∃ q c, i = q + c ∧ q % 4 = 0 ∧ c < 4 := ⟨i - i % 4, i % 4, by omega, by omega, by omega⟩
    have hq16 : q < 16 := by omega
    have M := fun (x : List Nat) (c : Nat) (hc : c < 4) => mx_at g0 g1 g2 g3 x q c hq hq16 hc
    have N := fun (c : Nat) (hc : c < 4) => mx_at f0 f1 f2 f3 b q c hq hq16 hc
    have N0 := N 0 (by omega)
    have N1 := N 1 (by omega)
    have N2 := N 2 (by omega)
    have N3 := N 3 (by omega)
    simp only [Nat.zero_mod, Nat.zero_add, Nat.reduceAdd, Nat.reduceMod, Nat.add_zero] at N0 N1 N2 N3
    have c4 : c = 0 ∨ c = 1 ∨ c = 2 ∨ c = 3 := by omega
    rcases c4 with rfl | rfl | rfl | rfl
    · rw [M _ 0 (by omega)]
      simp only [Nat.zero_mod, Nat.zero_add, Nat.reduceMod, Nat.add_zero]
      rw [N0, N1, N2, N3]
      exact F _ _ _ _ (h _) (h _) (h _) (h _)
    · rw [M _ 1 (by omega)]
      simp only [Nat.reduceAdd, Nat.reduceMod, Nat.add_zero]
      rw [N0, N1, N2, N3]
      exact F _ _ _ _ (h _) (h _) (h _) (h _)
    · rw [M _ 2 (by omega)]
      simp only [Nat.reduceAdd, Nat.reduceMod, Nat.add_zero]
      rw [N0, N1, N2, N3]
      exact F _ _ _ _ (h _) (h _) (h _) (h _)
    · rw [M _ 3 (by omega)]
      simp only [Nat.reduceAdd, Nat.reduceMod, Nat.add_zero]
      rw [N0, N1, N2, N3]
      exact F _ _ _ _ (h _) (h _) (h _) (h _)
  have l := tab_self 16 (mx g0 g1 g2 g3 (mx f0 f1 f2 f3 b)) (mx_bts _ _ _ _ (mx_bts _ _ _ _ hb)).1
  rw [← l, tab_congr go, tab_self 16 b hb.1]
theorem mx_back {b : List Nat} (hb : Bts 16 b) : mx 14 11 13 9 (mx 2 3 1 1 b) = b :=
  mx_two hb 2 3 1 1 14 11 13 9 (by omega) (by omega) (by omega) (by omega) (by omega) (by omega) (by omega) (by omega) (by decide +kernel) (by decide +kernel) (by decide +kernel) (by decide +kernel)
/-- A round, with the round key rk. -/
def rnd (last : Bool) (rk b : List Nat) : List Nat := jn (cond last (mv 1 (sb bxs b)) (mx 2 3 1 1 (mv 1 (sb bxs b)))) rk
def dnr (last : Bool) (rk b : List Nat) : List Nat := sb kxs (mv 3 (cond last (jn b rk) (mx 14 11 13 9 (jn b rk))))
theorem rnd_bts {rk b : List Nat} (last : Bool) (hk : Bts 16 rk) : Bts 16 (rnd last rk b) := by
  have h1 : Bts 16 (mv 1 (sb bxs b)) := mv_bts 1 (sb_bts bxs_bts)
  unfold rnd
  cases last
  · exact jn_bts (mx_bts _ _ _ _ h1) hk
  · exact jn_bts h1 hk
theorem dnr_bts (rk b : List Nat) (last : Bool) : Bts 16 (dnr last rk b) := sb_bts kxs_bts
theorem dnr_rnd {rk b : List Nat} (last : Bool) (hb : Bts 16 b) : dnr last rk (rnd last rk b) = b := by
  have h0 : Bts 16 (sb bxs b) := sb_bts bxs_bts
  have h1 : Bts 16 (mv 1 (sb bxs b)) := mv_bts 1 h0
  unfold rnd dnr
  cases last
  · simp only [cond_false]
    rw [jn_jn (mx_bts 2 3 1 1 h1), mx_back h1, mv_31 h0, sb_kb hb]
  · simp only [cond_true]
    rw [jn_jn h1, mv_31 h0, sb_kb hb]
/-- The state behind n rounds; R: the round keys by their numbers. -/
def trn (R : Nat → List Nat) (b : List Nat) : Nat → List Nat
  | 0 => jn b (R 0)
  | n + 1 => rnd (decide (n = 13)) (R (n + 1)) (trn R b n)
def turn (R : Nat → List Nat) (b : List Nat) : List Nat := trn R b 14
/-- The state when n rounds are turned back. -/
def bkn (R : Nat → List Nat) (b : List Nat) : Nat → List Nat
  | 0 => b
  | n + 1 => dnr (decide (n = 0)) (R (14 - n)) (bkn R b n)
def back (R : Nat → List Nat) (b : List Nat) : List Nat := jn (bkn R b 14) (R 0)
theorem trn_bts {R : Nat → List Nat} {b : List Nat} (hR : ∀ i, Bts 16 (R i)) (hb : Bts 16 b) : ∀ n, Bts 16 (trn R b n)
  | 0 => jn_bts hb (hR 0)
  | n + 1 => rnd_bts _ (hR (n + 1))
theorem bkn_bts {R : Nat → List Nat} {b : List Nat} (hb : Bts 16 b) : ∀ n, Bts 16 (bkn R b n)
  | 0 => hb
  | _ + 1 => dnr_bts _ _ _
theorem turn_bts {R : Nat → List Nat} {b : List Nat} (hR : ∀ i, Bts 16 (R i)) (hb : Bts 16 b) : Bts 16 (turn R b) := trn_bts hR hb 14
theorem back_bts {R : Nat → List Nat} {b : List Nat} (hR : ∀ i, Bts 16 (R i)) (hb : Bts 16 b) : Bts 16 (back R b) := jn_bts (bkn_bts hb 14) (hR 0)
theorem bkn_trn {R : Nat → List Nat} {b : List Nat} (hR : ∀ i, Bts 16 (R i)) (hb : Bts 16 b) : ∀ n, n ≤ 14 → bkn R (turn R b) n = trn R b (14 - n)
  | 0, _ => rfl
  | n + 1, h => by
    obtain ⟨k, hk⟩ : ∃ k, 14 - n = k + 1 := ⟨13 - n, by omega⟩
    have e : decide (n = 0) = decide (k = 13) := by congr 1; simp; omega
    rw [bkn, bkn_trn hR hb n (by omega), hk, show 14 - (n + 1) = k by omega, trn, e, dnr_rnd _ (trn_bts hR hb k)]
theorem back_turn {R : Nat → List Nat} {b : List Nat} (hR : ∀ i, Bts 16 (R i)) (hb : Bts 16 b) : back R (turn R b) = b := by
  unfold back
  rw [bkn_trn hR hb 14 (by omega)]
  exact jn_jn hb
end Go.Proofs.YtpkeofioobmmoaaGreatDoor.ae
