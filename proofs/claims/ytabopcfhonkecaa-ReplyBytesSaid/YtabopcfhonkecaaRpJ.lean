/-
  The contract of ReadStatus. Condition: the bytes are at most 10000.
-/
import Derived.Test.YtabopcfhonkecaaRpH
namespace Go.Proofs.Ytabopcfhonkecaa
open Go.RowKit
theorem setCellRow (w : World) (g i : Nat) (cur : Array Value) (t : TypeId) (v : Value) (hg : w.heap[g]? = some (.cells cur t (0, 0))) : w.setCell ⟨g, i, none⟩ v = w.setRow g (cur.setIfInBounds i v) := by rw [setCell_eq_setRow _ _ _ _ _ _ _ hg]
theorem sc_set (L : List Int) (k : Nat) (z : Int) : (sc L).toArray.setIfInBounds k (.int .i64 z) = (sc (L.set k z)).toArray := by simp [sc, List.map_set]
theorem st_cell {w : World} {g : Nat} {L : List Int} (h : w.heap[g]? = some (.cells (sc L).toArray 41 (0, 0))) (k : Nat) (hk : k < L.length) : w.cell? ⟨g, k, none⟩ = some (.int .i64 (nth L k)) := by
  rw [cell_row h]; exact sc_at L k hk
theorem st_set {w : World} {g : Nat} {L : List Int} (h : w.heap[g]? = some (.cells (sc L).toArray 41 (0, 0))) (k : Nat) (z : Int) : w.setCell ⟨g, k, none⟩ (.int .i64 z) = w.setRow g (sc (L.set k z)).toArray := by
  rw [setCellRow w g k _ 41 _ h, sc_set]
/-- What a reader of numbers of two bytes has behind n of them; the number behind n. -/
def rs (xs : List Int) : Nat → List Int × Bool
  | 0 => (xs, false)
  | n + 1 => (rst (rs xs n).1 (rs xs n).2 2, shrt (rs xs n).1.length (rs xs n).2 2)
def rv (xs : List Int) (n : Nat) : Int := getV (got (rs xs n).1 (rs xs n).2 2) 0 2
theorem rs_byt {xs : List Int} (h : Byt xs) : ∀ n, Byt (rs xs n).1
  | 0 => h
  | n + 1 => rst_byt (rs_byt h n) _ _
theorem rv_bd {xs : List Int} (h : Byt xs) (n : Nat) : 0 ≤ rv xs n ∧ rv xs n < 65536 := octetPuts.getV_bd _ 0 2 (got_byt' (rs_byt h n) _ _)
theorem rs_plain (xs : List Int) : ∀ n, 2 * n ≤ xs.length → rs xs n = (xs.drop (2 * n), false)
  | 0, _ => by simp [rs]
  | n + 1, h => by
    have ih := rs_plain xs n (by omega)
    have e : shrt (xs.drop (2 * n)).length false 2 = false := by simp [shrt]; omega
    simp only [rs, ih, rst, e]
    simp
    omega
theorem rv_plain (xs : List Int) (n : Nat) (h : 2 * n + 2 ≤ xs.length) : rv xs n = numI ((xs.drop (2 * n)).take 2) := by
  have e : shrt (xs.drop (2 * n)).length false 2 = false := by simp [shrt]; omega
  have hl : ((xs.drop (2 * n)).take 2).length = 2 := by rw [List.length_take, List.length_drop]; omega
  have hg : got (xs.drop (2 * n)) false 2 = (xs.drop (2 * n)).take 2 := by simp only [got, e]; simp
  have hv := rx.getV_all ((xs.drop (2 * n)).take 2)
  rw [hl] at hv
  unfold rv
  rw [rs_plain xs n (by omega)]
  show getV (got (xs.drop (2 * n)) false 2) 0 2 = _
  rw [hg]
  exact hv
theorem rs_stay (xs : List Int) (n : Nat) (h : (rs xs n).2 = true) : ∀ k, (rs xs (n + k)).2 = true
  | 0 => h
  | k + 1 => by
    have ih := rs_stay xs n h k
    show shrt (rs xs (n + k)).1.length (rs xs (n + k)).2 2 = true
    simp [shrt, ih]
theorem rs_short (xs : List Int) (n : Nat) (h : xs.length < 2 * n) : (rs xs n).2 = true := by
  obtain ⟨m, hm⟩ : ∃ m, m = xs.length / 2 := ⟨_, rfl⟩
  have e := rs_plain xs m (by omega)
  have e2 : (rs xs (m + 1)).2 = true := by
    show shrt (rs xs m).1.length (rs xs m).2 2 = true
    rw [e]
    simp [shrt]
    omega
  have := rs_stay xs (m + 1) e2 (n - (m + 1))
  rwa [show m + 1 + (n - (m + 1)) = n by omega] at this
def rL (xs : List Int) (i : Nat) : List Int := (List.range 19).map fun j => if j < 3 then rv xs j else if j < 11 then (if j - 3 < i then rv xs (3 + 2 * (j - 3)) else 0) else (if j - 11 < i then rv xs (4 + 2 * (j - 11)) else 0)
theorem rL_len (xs : List Int) (i : Nat) : (rL xs i).length = 19 := by simp [rL]
theorem rL_at (xs : List Int) (i j : Nat) (h : j < 19) : nth (rL xs i) j = if j < 3 then rv xs j else if j < 11 then (if j - 3 < i then rv xs (3 + 2 * (j - 3)) else 0) else (if j - 11 < i then rv xs (4 + 2 * (j - 11)) else 0) := by
  simp [nth, List.getD, rL, h]
theorem nth_set (L : List Int) (k j : Nat) (z : Int) (h : j < L.length) : nth (L.set k z) j = if k = j then z else nth L j := by
  simp only [nth, List.getD_eq_getElem?_getD, List.getElem?_set]
  split
  · simp [*]
  · rfl
theorem rL_step (xs : List Int) (i : Nat) (h : i < 8) : ((rL xs i).set (3 + i) (rv xs (3 + 2 * i))).set (11 + i) (rv xs (4 + 2 * i)) = rL xs (i + 1) := by
  refine ext_nth (by simp [rL_len]) fun j hj => ?_
  have hj : j < 19 := by simpa [rL_len] using hj
  rw [nth_set _ _ _ _ (by simp [rL_len]; omega), nth_set _ _ _ _ (by simp [rL_len]; omega), rL_at _ _ _ hj, rL_at _ _ _ hj]
  by_cases h1 : 11 + i = j
  · subst h1
    rw [if_pos rfl, if_neg (by omega), if_neg (by omega), if_pos (by omega), show 11 + i - 11 = i by omega]
  · rw [if_neg h1]
    by_cases h2 : 3 + i = j
    · subst h2
      rw [if_pos rfl, if_neg (by omega), if_pos (by omega), if_pos (by omega), show 3 + i - 3 = i by omega]
    · rw [if_neg h2]
      by_cases h3 : j < 3
      · rw [if_pos h3, if_pos h3]
      · rw [if_neg h3, if_neg h3]
        by_cases h4 : j < 11
        · rw [if_pos h4, if_pos h4]
          by_cases h5 : j - 3 < i
          · rw [if_pos h5, if_pos (by omega)]
          · rw [if_neg h5, if_neg (by omega)]
        · rw [if_neg h4, if_neg h4]
          by_cases h5 : j - 11 < i
          · rw [if_pos h5, if_pos (by omega)]
          · rw [if_neg h5, if_neg (by omega)]
theorem rL_zero (xs : List Int) : rL xs 0 = [rv xs 0, rv xs 1, rv xs 2, 0, 0, 0, 0, 0, 0, 0, 0, 0, 0, 0, 0, 0, 0, 0, 0] := rfl
def zL : List Int := [0, 0, 0, 0, 0, 0, 0, 0, 0, 0, 0, 0, 0, 0, 0, 0, 0, 0, 0]
theorem z41 (w : World) : (zeroValue 41).run Try.prog w = .ok (.agg (sc zL).toArray) w := by kernel_rfl
theorem b41z (w : World) : (Instr.build 41 #[]).run Try.prog w = .ok (.agg (sc zL).toArray) w := by kernel_rfl
theorem b41 (xs : List Int) (w : World) : (Instr.build 41 #[(0, .int .i64 (rv xs 0)), (1, .int .i64 (rv xs 1)), (2, .int .i64 (rv xs 2))]).run Try.prog w = .ok (.agg (sc (rL xs 0)).toArray) w := by
  rw [rL_zero]
  generalize rv xs 0 = a
  generalize rv xs 1 = b
  generalize rv xs 2 = c
  kernel_rfl
def stL (xs : List Int) : List Int := if xs.length = 38 then rL xs 8 else zL
def stE (xs : List Int) : Int := if xs.length = 38 then 0 else 3
theorem stL_len (xs : List Int) : (stL xs).length = 19 := by
  unfold stL
  split
  · exact rL_len _ _
  · rfl
def ReadS (w : World) (xs : List Int) (e : Ending) (w' : World) : Prop := e = .returned (.tuple #[.agg (sc (stL xs)).toArray, .int .i64 (stE xs)]) ∧ Below w.heap.size w w'
theorem end19 (xs : List Int) : (endE (rs xs 19).1 (rs xs 19).2 == 0) = decide (xs.length = 38) := by
  by_cases h : xs.length < 38
  · rw [endE, if_pos (rs_short xs 19 (by omega)), decide_eq_false (by omega)]
    rfl
  · rw [rs_plain xs 19 (by omega)]
    show (endE (xs.drop 38) false == 0) = _
    unfold endE
    rw [if_neg (by simp)]
    by_cases h2 : xs.length = 38
    · rw [if_pos (List.drop_eq_nil_of_le (by omega)), decide_eq_true h2]
      rfl
    · rw [if_neg (fun e => by have := congrArg List.length e; rw [List.length_drop] at this; simp at this; omega), decide_eq_false h2]
      rfl
set_option maxRecDepth 100000 in
set_option maxHeartbeats 4000000 in
theorem readC (v : Value) (xs : List Int) (hl : xs.length ≤ 10000) (w : World) (hs : Sees w v xs) : Calls Try.prog 18 #[v] w (ReadS w xs) := by
  obtain ⟨Z, hZ⟩ : ∃ Z, Z = (sc zL).toArray := ⟨_, rfl⟩
  have z := z41
  have bz := b41z
  have i0 := i41 (L := zL) rfl
  have oz := sc_one zL
  rw [← hZ] at z bz i0 oz
  have HZ := Lib.hid z
  have BZ := Lib.hid bz
  have IZ := Lib.hid i0
  have OZ := Lib.hid oz
  have HZE := Lib.hid hZ
  obtain ⟨w1, hw1⟩ : ∃ w1, w1 = w.alloc (.cells Z 41) := ⟨_, rfl⟩
  have B1 : Hid (Below w.heap.size w w1) := by show Below _ _ _; rw [hw1]; exact (Below.refl _ _).alloc (Nat.le_refl _) _
  have G1 : Hid (w1.heap[w.heap.size]? = some (.cells Z 41 (0, 0))) := by show _ = _; rw [hw1]; exact heap_alloc_new w _
  have HW1 := Lib.hid hw1
  have RN : Hid (Calls Try.prog 24 #[v] w1 (rx.ReadP w1 xs)) := rx.readn v xs (by omega) w1 (hs.below B1.out)
  have UU : Hid (∀ n g W, rx.RD W g (rs xs n).1 (rs xs n).2 → Calls Try.prog 25 #[.pointer (some ⟨g, 0, none⟩)] W fun e w' => e = .returned (.int .u16 (rv xs n)) ∧ rx.RD w' g (rs xs (n + 1)).1 (rs xs (n + 1)).2 ∧ W.grownBy w' (some g)) := fun n g W h => rx.u16 g _ _ W h
  have WV : Hid (∀ n, IntKind.i64.wrap (rv xs n) = rv xs n) := fun n => by
    have := rv_bd hs.1 n
    rw [IntKind.wrap_i64]; omega
  have HE : Hid (∀ g W, rx.RD W g (rs xs 19).1 (rs xs 19).2 → Calls Try.prog 28 #[.pointer (some ⟨g, 0, none⟩)] W fun e w' => e = .returned (.int .i64 (endE (rs xs 19).1 (rs xs 19).2)) ∧ W = w') := fun g W h => endR g _ _ W h
  have E19 := Lib.hid (end19 xs)
  have BP := Lib.hid (b41 xs)
  have STP := Lib.hid (rL_step xs)
  have RLL := Lib.hid (rL_len xs)
  have UR0 : Hid (∀ g W, rx.RD W g xs false → Calls Try.prog 25 #[.pointer (some ⟨g, 0, none⟩)] W fun e w' => e = .returned (.int .u16 (rv xs 0)) ∧ rx.RD w' g (rs xs 1).1 (rs xs 1).2 ∧ W.grownBy w' (some g)) := fun g W h => UU.out 0 g W h
  have q0 := WV.out 0
  have q1 := WV.out 1
  have q2 := WV.out 2
  have FINY : Hid (xs.length = 38 → ∀ W, Below w.heap.size w W → ReadS w xs (.returned (.tuple #[.agg (sc (rL xs 8)).toArray, .int .i64 0])) W) := fun h38 W hb => by
    unfold ReadS stL stE
    rw [if_pos h38, if_pos h38]
    exact ⟨rfl, hb⟩
  have FINN : Hid (xs.length ≠ 38 → ∀ W, Below w.heap.size w W → ReadS w xs (.returned (.tuple #[.agg Z, .int .i64 3])) W) := fun h38 W hb => by
    unfold ReadS stL stE
    rw [if_neg h38, if_neg h38, hZ]
    exact ⟨rfl, hb⟩
  clear hw1 hs hl z bz i0 oz hZ HZE
  obtain ⟨PP, hPP⟩ : ∃ PP, PP = ReadS w xs := ⟨_, rfl⟩
  rw [← hPP] at FINY FINN ⊢
  obtain ⟨rl, hrl⟩ : ∃ rl, rl = rL xs := ⟨_, rfl⟩
  rw [← hrl] at BP STP RLL FINY
  obtain ⟨V, hV⟩ : ∃ V, V = rv xs := ⟨_, rfl⟩
  rw [← hV] at UU WV BP STP UR0 q0 q1 q2
  have U0 : Hid (∀ g W, rx.RD W g xs false → rx.RD W g (rs xs 0).1 (rs xs 0).2) := fun g W h => h
  obtain ⟨S, hS⟩ : ∃ S, S = rs xs := ⟨_, rfl⟩
  rw [← hS] at UU UR0 HE E19 U0
  obtain ⟨l38, h38⟩ : ∃ l38, l38 = xs.length := ⟨_, rfl⟩
  rw [← h38] at FINY FINN E19
  clear hPP hrl hV hS h38
  go_enter Try.func18, Try.ntmps18
  go_upto_region 1 with (first | (refine wpList_alloc_z rfl 41 rfl (HZ.out w) ?_; rw [← HW1.out]))
  go_wp2_with fail
  refine RN.out.mono ?_
  rintro e w2 ⟨g, rfl, hrd, hb, hg⟩
  have B2 := Lib.hid (B1.out.trans (hb.mono B1.out.size))
  have HG : Hid (w.heap.size ≤ g) := Nat.le_trans B1.out.size hg
  have HGN : Hid (w.heap.size < g) := Nat.lt_of_lt_of_le (blk_lt G1.out) hg
  have G2 := Lib.hid ((hb.block _ (blk_lt G1.out)).trans G1.out)
  have R2 := Lib.hid hrd
  clear hb hrd hg RN
  go_wp2_with fail
  refine (UR0.out g _ R2.out).mono ?_
  rintro e w3 ⟨rfl, hrd, hgr⟩
  have B3 := Lib.hid (below_g B2.out HG.out hgr)
  have G3 := Lib.hid ((hgr.block _ (blk_lt G2.out) (fun e => by have := Option.some.inj e; have := HGN.out; omega)).trans G2.out)
  have R3 := Lib.hid hrd
  clear hrd hgr B2 G2 R2
  go_wp2_with fail
  refine (UU.out 1 g _ R3.out).mono ?_
  rintro e w4 ⟨rfl, hrd, hgr⟩
  have B4 := Lib.hid (below_g B3.out HG.out hgr)
  have G4 := Lib.hid ((hgr.block _ (blk_lt G3.out) (fun e => by have := Option.some.inj e; have := HGN.out; omega)).trans G3.out)
  have R4 := Lib.hid hrd
  clear hrd hgr B3 G3 R3
  go_wp2_with fail
  refine (UU.out 2 g _ R4.out).mono ?_
  rintro e w5 ⟨rfl, hrd, hgr⟩
  have B5 := Lib.hid (below_g B4.out HG.out hgr)
  have G5 := Lib.hid ((hgr.block _ (blk_lt G4.out) (fun e => by have := Option.some.inj e; have := HGN.out; omega)).trans G4.out)
  have R5 := Lib.hid hrd
  clear hrd hgr B4 G4 R4
  have bp := BP.out w5
  have ic := i41 (RLL.out 0)
  have oc := sc_one (rl 0)
  obtain ⟨C, hC⟩ : ∃ C, C = (sc (rl 0)).toArray := ⟨_, rfl⟩
  rw [← hC] at bp ic oc
  have BC := Lib.hid bp
  have IC := Lib.hid ic
  have OC := Lib.hid oc
  have IZC : Hid (Z.size = C.size) := Option.some.inj (IZ.out.symm.trans ic)
  obtain ⟨w6, hw6⟩ : ∃ w6, w6 = w5.alloc (.cells C 41) := ⟨_, rfl⟩
  have RNN : Hid ((w5.alloc (.cells Z 41)).setRow w5.heap.size C = w6) := by show _ = _; rw [hw6]; exact alloc_setRowT w5 Z C 41 _ rfl
  have GZN : Hid ((w5.alloc (.cells Z 41)).heap[w5.heap.size]? = some (.cells Z 41 (0, 0))) := heap_alloc_new w5 _
  have hb6 : Below w5.heap.size w5 w6 := by rw [hw6]; exact (Below.refl _ _).alloc (Nat.le_refl _) _
  have G6 : Hid (w6.heap[w5.heap.size]? = some (.cells (sc (rl 0)).toArray 41 (0, 0))) := by show _ = _; rw [← hC, hw6]; exact heap_alloc_new w5 _
  have B6 := Lib.hid (B5.out.trans (hb6.mono B5.out.size))
  have Y6 := Lib.hid ((hb6.block _ (blk_lt G5.out)).trans G5.out)
  have R6 := Lib.hid (R5.out.below hb6)
  have HRN : Hid (w.heap.size < w5.heap.size) := blk_lt G5.out
  have HGR : Hid (g < w5.heap.size) := R5.out.lt
  obtain ⟨R, hR⟩ : ∃ R, R = w5.heap.size := ⟨_, rfl⟩
  clear hw6 hb6 B5 G5 R5 bp ic oc BP UR0 hC
  go_wp2_with (refine wpList_build3_run (u1 := .int .i64 (V 0)) (u2 := .int .i64 (V 1)) (u3 := .int .i64 (V 2)) rfl 41 0 1 2 (.tmp 11) (.tmp 14) (.tmp 17) rfl rfl rfl rfl BC.out ?_; refine wpList_alloc_z rfl 41 rfl (HZ.out w5) ?_; refine wpList_store_row rfl 41 (.tmp 5) (.tmp 18) rfl w5.heap.size C rfl rfl 41 Z GZN.out IC.out IZC.out OC.out ?_; rw [RNN.out])
  rw [← hR] at G6 HRN HGR ⊢
  clear hR BC IC OC IZC RNN GZN q0 q1 q2
  go_loopw [19] (fun v19 wr => ∃ i : Nat, i ≤ 8 ∧ v19 = .int .i64 (i : Int) ∧ rx.RD wr g (S (3 + 2 * i)).1 (S (3 + 2 * i)).2 ∧ wr.heap[R]? = some (.cells (sc (rl i)).toArray 41 (0, 0)) ∧ wr.heap[w.heap.size]? = some (.cells Z 41 (0, 0)) ∧ Below w.heap.size w wr) (fun v19 _ => 8 - (intOf v19).toNat)
  case atStart => exact ⟨0, by omega, rfl, R6.out, G6.out, Y6.out, B6.out⟩
  case round =>
    obtain ⟨i, hi, rfl, hrd, hgR, hgZ, hb⟩ := hrel
    have HR := Lib.hid hrd
    have GR := Lib.hid hgR
    have GZ := Lib.hid hgZ
    have HB := Lib.hid hb
    clear hrd hgR hgZ hb R6 G6 Y6 B6
    by_cases hlt : i < 8
    · have HI8 := Lib.hid hlt
      have hii : (i : Int) < 8 := by omega
      have UR1 : Hid (∀ W, rx.RD W g (S (3 + 2 * i)).1 (S (3 + 2 * i)).2 → Calls Try.prog 25 #[.pointer (some ⟨g, 0, none⟩)] W fun e w' => e = .returned (.int .u16 (V (3 + 2 * i))) ∧ rx.RD w' g (S (4 + 2 * i)).1 (S (4 + 2 * i)).2 ∧ W.grownBy w' (some g)) := fun W h => by
        have := UU.out (3 + 2 * i) g W h
        rwa [show 3 + 2 * i + 1 = 4 + 2 * i by omega] at this
      have UR2 : Hid (∀ W, rx.RD W g (S (4 + 2 * i)).1 (S (4 + 2 * i)).2 → Calls Try.prog 25 #[.pointer (some ⟨g, 0, none⟩)] W fun e w' => e = .returned (.int .u16 (V (4 + 2 * i))) ∧ rx.RD w' g (S (3 + 2 * (i + 1))).1 (S (3 + 2 * (i + 1))).2 ∧ W.grownBy w' (some g)) := fun W h => by
        have := UU.out (4 + 2 * i) g W h
        rwa [show 4 + 2 * i + 1 = 3 + 2 * (i + 1) by omega] at this
      have WV1 := Lib.hid (WV.out (3 + 2 * i))
      have WV2 := Lib.hid (WV.out (4 + 2 * i))
      have NXT := Lib.hid (STP.out i hlt)
      have LE1 := RLL.out i
      generalize V (3 + 2 * i) = va at UR1 WV1 NXT
      generalize V (4 + 2 * i) = vb at UR2 WV2 NXT
      generalize hL : rl i = L at GR NXT LE1
      clear hL
      have HLL := Lib.hid LE1
      have HLL2 : Hid ((L.set (3 + i) va).length = 19) := by show _ = _; rw [List.length_set]; exact LE1
      clear LE1
      go_wp2_with fail
      refine wp_region_held_drew (S := fun W => Below w.heap.size w W) (by kernel_rfl) HB.out.drew (fun hS => ?_)
      have hb0 : Below wr.heap.size wr wr.drew := (Below.refl _ _).drew
      have qR := HR.out.below hb0
      have qG := (hb0.block _ (blk_lt GR.out)).trans GR.out
      have qZ := (hb0.block _ (blk_lt GZ.out)).trans GZ.out
      clear hb0 HR GR GZ HB
      generalize wr.drew = Ws at hS qR qG qZ ⊢
      have HR := Lib.hid qR
      have GR := Lib.hid qG
      have GZ := Lib.hid qZ
      clear qR qG qZ
      refine' wpAnyH_take (i := 0) ?h1x0k ?hsx0k ?hfx0k ?hrx0k ?hQx0k (Or.inl ⟨?hwx0k, ?hyx0k⟩) hS ?restx0k
      case h1x0k => (simp only [List.getElem?_toArray, List.getElem?_cons_zero]; rfl)
      case hsx0k => kernel_rfl
      case hfx0k => kernel_rfl
      case hrx0k => kernel_rfl
      case hQx0k => exact fun _ _ _ h => h
      case hwx0k => rfl
      case hyx0k =>
        intro W hW
        go_simp
        try with_reducible rfl
      simp only [Act.put, List.setIfInBounds_toArray, List.set_cons_succ, List.set_cons_zero]
      refine' wpAnyH_take (i := 1) ?h1x1k ?hsx1k ?hfx1k ?hrx1k ?hQx1k (Or.inl ⟨?hwx1k, ?hyx1k⟩) hS ?restx1k
      case h1x1k => (simp only [List.getElem?_toArray, List.getElem?_cons_succ, List.getElem?_cons_zero]; rfl)
      case hsx1k => kernel_rfl
      case hfx1k => kernel_rfl
      case hrx1k => kernel_rfl
      case hQx1k => exact fun _ _ _ h => h
      case hwx1k => rfl
      case hyx1k =>
        intro W hW
        go_simp
        try with_reducible rfl
      simp only [Act.put, List.setIfInBounds_toArray, List.set_cons_succ, List.set_cons_zero]
      refine' wpAnyH_take (i := 2) ?h1x2k ?hsx2k ?hfx2k ?hrx2k ?hQx2k (Or.inl ⟨?hwx2k, ?hyx2k⟩) hS ?restx2k
      case h1x2k => (simp only [List.getElem?_toArray, List.getElem?_cons_succ, List.getElem?_cons_zero]; rfl)
      case hsx2k => kernel_rfl
      case hfx2k => kernel_rfl
      case hrx2k => kernel_rfl
      case hQx2k => exact fun _ _ _ h => h
      case hwx2k => rfl
      case hyx2k =>
        intro W hW
        go_simp
        try with_reducible rfl
      simp only [Act.put, List.setIfInBounds_toArray, List.set_cons_succ, List.set_cons_zero]
      refine' wpAnyH_take (i := 5) ?h1x5k ?hsx5k ?hfx5k ?hrx5k ?hQx5k (Or.inl ⟨?hwx5k, ?hyx5k⟩) hS ?restx5k
      case h1x5k => (simp only [List.getElem?_toArray, List.getElem?_cons_succ, List.getElem?_cons_zero]; rfl)
      case hsx5k => kernel_rfl
      case hfx5k => kernel_rfl
      case hrx5k => kernel_rfl
      case hQx5k => exact fun _ _ _ h => h
      case hwx5k => rfl
      case hyx5k =>
        intro W hW
        go_simp
        try with_reducible rfl
      simp only [Act.put, List.setIfInBounds_toArray, List.set_cons_succ, List.set_cons_zero]
      refine' wpAnyH_take (i := 8) ?h1x8k ?hsx8k ?hfx8k ?hrx8k ?hQx8k (Or.inl ⟨?hwx8k, ?hyx8k⟩) hS ?restx8k
      case h1x8k => (simp only [List.getElem?_toArray, List.getElem?_cons_succ, List.getElem?_cons_zero]; rfl)
      case hsx8k => kernel_rfl
      case hfx8k => kernel_rfl
      case hrx8k => kernel_rfl
      case hQx8k => exact fun _ _ _ h => h
      case hwx8k => rfl
      case hyx8k =>
        intro W hW
        go_simp
        try with_reducible rfl
      simp only [Act.put, List.setIfInBounds_toArray, List.set_cons_succ, List.set_cons_zero]
      refine' wpAnyH_take (i := 11) ?h1x11k ?hsx11k ?hfx11k ?hrx11k ?hQx11k (Or.inl ⟨?hwx11k, ?hyx11k⟩) hS ?restx11k
      case h1x11k => (simp only [List.getElem?_toArray, List.getElem?_cons_succ, List.getElem?_cons_zero]; rfl)
      case hsx11k => kernel_rfl
      case hfx11k => kernel_rfl
      case hrx11k => kernel_rfl
      case hQx11k => exact fun _ _ _ h => h
      case hwx11k => rfl
      case hyx11k =>
        intro W hW
        go_simp
        try with_reducible rfl
      simp only [Act.put, List.setIfInBounds_toArray, List.set_cons_succ, List.set_cons_zero]
      refine wpAnyH_ready (rs := [3]) (by kernel_rfl) (by simp) ?_
      refine' (AllReadyH.cons ?hoc3k (fun K hK => ?stc3k) AllReadyH.nil)
      case hoc3k => (simp only [List.getElem?_toArray, List.getElem?_cons_succ, List.getElem?_cons_zero]; rfl)
      go_simp
      refine (UR1.out Ws HR.out).mono ?_
      rintro e W1 ⟨rfl, hrd, hgr⟩
      have qG := (hgr.block _ (blk_lt GR.out) (fun e => by have := Option.some.inj e; have := HGR.out; omega)).trans GR.out
      have qZ := (hgr.block _ (blk_lt GZ.out) (fun e => by have := Option.some.inj e; have := HGN.out; omega)).trans GZ.out
      have hS2 := below_g hS HG.out hgr
      clear HR GR GZ hgr
      have HR := Lib.hid hrd
      have GR := Lib.hid qG
      have GZ := Lib.hid qZ
      clear hrd qG qZ
      go_wp2_with fail
      refine hK.out _ _ hS2 (fun hHeld => ?_)
      clear hK K
      clear hS hS2
      try simp only [Act.put, List.setIfInBounds_toArray, List.set_cons_succ, List.set_cons_zero]
      have hS := hHeld
      clear hHeld
      refine' wpAnyH_take (i := 4) ?h1x4kx3 ?hsx4kx3 ?hfx4kx3 ?hrx4kx3 ?hQx4kx3 (Or.inl ⟨?hwx4kx3, ?hyx4kx3⟩) hS ?restx4kx3
      case h1x4kx3 => (simp only [List.getElem?_toArray, List.getElem?_cons_succ, List.getElem?_cons_zero]; rfl)
      case hsx4kx3 => kernel_rfl
      case hfx4kx3 => kernel_rfl
      case hrx4kx3 => kernel_rfl
      case hQx4kx3 => exact fun _ _ _ h => h
      case hwx4kx3 => rfl
      case hyx4kx3 =>
        intro W hW
        have dd := WV1.out
        go_simp
        try with_reducible rfl
      simp only [Act.put, List.setIfInBounds_toArray, List.set_cons_succ, List.set_cons_zero]
      refine' wpAnyH_take (i := 9) ?h1x9kx3 ?hsx9kx3 ?hfx9kx3 ?hrx9kx3 ?hQx9kx3 (Or.inl ⟨?hwx9kx3, ?hyx9kx3⟩) hS ?restx9kx3
      case h1x9kx3 => (simp only [List.getElem?_toArray, List.getElem?_cons_succ, List.getElem?_cons_zero]; rfl)
      case hsx9kx3 => kernel_rfl
      case hfx9kx3 => kernel_rfl
      case hrx9kx3 => kernel_rfl
      case hQx9kx3 => exact fun _ _ _ h => h
      case hwx9kx3 => rfl
      case hyx9kx3 =>
        intro W hW
        go_simp
        try with_reducible rfl
      simp only [Act.put, List.setIfInBounds_toArray, List.set_cons_succ, List.set_cons_zero]
      refine wpAnyH_ready (rs := [6]) (by kernel_rfl) (by simp) ?_
      refine' (AllReadyH.cons ?hoc6kx3 (fun K hK => ?stc6kx3) AllReadyH.nil)
      case hoc6kx3 => (simp only [List.getElem?_toArray, List.getElem?_cons_succ, List.getElem?_cons_zero]; rfl)
      go_simp
      refine (UR2.out W1 HR.out).mono ?_
      rintro e W2 ⟨rfl, hrd, hgr⟩
      have qG := (hgr.block _ (blk_lt GR.out) (fun e => by have := Option.some.inj e; have := HGR.out; omega)).trans GR.out
      have qZ := (hgr.block _ (blk_lt GZ.out) (fun e => by have := Option.some.inj e; have := HGN.out; omega)).trans GZ.out
      have hS2 := below_g hS HG.out hgr
      clear HR GR GZ hgr
      have HR := Lib.hid hrd
      have GR := Lib.hid qG
      have GZ := Lib.hid qZ
      clear hrd qG qZ
      go_wp2_with fail
      refine hK.out _ _ hS2 (fun hHeld => ?_)
      clear hK K
      clear hS hS2
      try simp only [Act.put, List.setIfInBounds_toArray, List.set_cons_succ, List.set_cons_zero]
      have hS := hHeld
      clear hHeld
      refine' wpAnyH_take (i := 7) ?h1x7kx3x6 ?hsx7kx3x6 ?hfx7kx3x6 ?hrx7kx3x6 ?hQx7kx3x6 (Or.inl ⟨?hwx7kx3x6, ?hyx7kx3x6⟩) hS ?restx7kx3x6
      case h1x7kx3x6 => (simp only [List.getElem?_toArray, List.getElem?_cons_succ, List.getElem?_cons_zero]; rfl)
      case hsx7kx3x6 => kernel_rfl
      case hfx7kx3x6 => kernel_rfl
      case hrx7kx3x6 => kernel_rfl
      case hQx7kx3x6 => exact fun _ _ _ h => h
      case hwx7kx3x6 => rfl
      case hyx7kx3x6 =>
        intro W hW
        have dd := WV2.out
        go_simp
        try with_reducible rfl
      simp only [Act.put, List.setIfInBounds_toArray, List.set_cons_succ, List.set_cons_zero]
      refine wpAnyH_ready (rs := [10]) (by kernel_rfl) (by simp) ?_
      refine' (AllReadyH.cons ?hoc10kx3x6 (fun K hK => ?stc10kx3x6) AllReadyH.nil)
      case hoc10kx3x6 => (simp only [List.getElem?_toArray, List.getElem?_cons_succ, List.getElem?_cons_zero]; rfl)
      have cc := st_cell GR.out (3 + i) (by rw [HLL.out]; have := HI8.out; omega)
      have ff := frozen_block GR.out (3 + i)
      go_simp
      clear cc ff
      have se := st_set GR.out (3 + i) (va)
      have qG := setRow_heap W2 R _ (sc ((L).set (3 + i) (va))).toArray _ _ GR.out
      have qZ := (setRow_other W2 R w.heap.size (sc ((L).set (3 + i) (va))).toArray (by have := HRN.out; omega)).trans GZ.out
      have qR := HR.out.setRow (k := R) (sc ((L).set (3 + i) (va))).toArray (by have := HGR.out; omega) (by have := HGR.out; omega)
      have qS := hS.trans (below_row W2 (sc ((L).set (3 + i) (va))).toArray (Nat.le_of_lt HRN.out))
      rw [← se] at qG qZ qR qS
      clear se
      refine hK.out _ _ qS (fun hHeld => ?_)
      clear hK K hS
      try simp only [Act.put, List.setIfInBounds_toArray, List.set_cons_succ, List.set_cons_zero]
      have hS := hHeld
      clear hHeld qS HR GR GZ
      generalize World.setCell W2 ⟨R, 3 + i, none⟩ (.int .i64 (va)) = W3 at hS qG qZ qR ⊢
      have HR := Lib.hid qR
      have GR := Lib.hid qG
      have GZ := Lib.hid qZ
      clear qR qG qZ
      refine' wpAnyH_take (i := 12) ?h1x12kx3x6x10 ?hsx12kx3x6x10 ?hfx12kx3x6x10 ?hrx12kx3x6x10 ?hQx12kx3x6x10 (Or.inl ⟨?hwx12kx3x6x10, ?hyx12kx3x6x10⟩) hS ?restx12kx3x6x10
      case h1x12kx3x6x10 => (simp only [List.getElem?_toArray, List.getElem?_cons_succ, List.getElem?_cons_zero]; rfl)
      case hsx12kx3x6x10 => kernel_rfl
      case hfx12kx3x6x10 => kernel_rfl
      case hrx12kx3x6x10 => kernel_rfl
      case hQx12kx3x6x10 => exact fun _ _ _ h => h
      case hwx12kx3x6x10 => rfl
      case hyx12kx3x6x10 =>
        intro W hW
        go_simp
        try with_reducible rfl
      simp only [Act.put, List.setIfInBounds_toArray, List.set_cons_succ, List.set_cons_zero]
      refine wpAnyH_ready (rs := [13]) (by kernel_rfl) (by simp) ?_
      refine' (AllReadyH.cons ?hoc13kx3x6x10 (fun K hK => ?stc13kx3x6x10) AllReadyH.nil)
      case hoc13kx3x6x10 => (simp only [List.getElem?_toArray, List.getElem?_cons_succ, List.getElem?_cons_zero]; rfl)
      have cc := st_cell GR.out (11 + i) (by rw [HLL2.out]; have := HI8.out; omega)
      have ff := frozen_block GR.out (11 + i)
      go_simp
      clear cc ff
      have se := st_set GR.out (11 + i) (vb)
      have qG := setRow_heap W3 R _ (sc ((L.set (3 + i) va).set (11 + i) (vb))).toArray _ _ GR.out
      have qZ := (setRow_other W3 R w.heap.size (sc ((L.set (3 + i) va).set (11 + i) (vb))).toArray (by have := HRN.out; omega)).trans GZ.out
      have qR := HR.out.setRow (k := R) (sc ((L.set (3 + i) va).set (11 + i) (vb))).toArray (by have := HGR.out; omega) (by have := HGR.out; omega)
      have qS := hS.trans (below_row W3 (sc ((L.set (3 + i) va).set (11 + i) (vb))).toArray (Nat.le_of_lt HRN.out))
      rw [← se] at qG qZ qR qS
      clear se
      refine hK.out _ _ qS (fun hHeld => ?_)
      clear hK K hS
      try simp only [Act.put, List.setIfInBounds_toArray, List.set_cons_succ, List.set_cons_zero]
      have hS := hHeld
      clear hHeld qS HR GR GZ
      generalize World.setCell W3 ⟨R, 11 + i, none⟩ (.int .i64 (vb)) = W4 at hS qG qZ qR ⊢
      have HR := Lib.hid qR
      have GR := Lib.hid qG
      have GZ := Lib.hid qZ
      clear qR qG qZ
      refine wpAnyH_done (by kernel_rfl) ?_ _
      have GRN : Hid (W4.heap[R]? = some (.cells (sc (rl (i + 1))).toArray 41 (0, 0))) := by
        show _ = _
        rw [← NXT.out]
        exact GR.out
      go_wp2_with fail
      go_roundw
      case rel => exact ⟨i + 1, by have := HI8.out; omega, by go_num, HR.out, GRN.out, GZ.out, hS⟩
      case measure => simp [intOf]; have := HI8.out; omega
    · have hge : ¬ (i : Int) < 8 := by omega
      obtain rfl : i = 8 := by omega
      go_wp2_with fail
      refine (HE.out g wr HR.out).mono ?_
      rintro e w' ⟨rfl, rfl⟩
      have ic := i41 (RLL.out 8)
      have oc := sc_one (rl 8)
      by_cases h38 : l38 = 38
      · have e19 := E19.out
        rw [decide_eq_true h38] at e19
        have FIN := Lib.hid (FINY.out h38)
        generalize endE (S 19).1 (S 19).2 = E at e19 ⊢
        obtain rfl : E = 0 := beq_iff_eq.1 e19
        obtain ⟨D, hD⟩ : ∃ D, D = (sc (rl 8)).toArray := ⟨_, rfl⟩
        rw [← hD] at ic oc GR FIN
        have IC := Lib.hid ic
        have OC := Lib.hid oc
        have IZC : Hid (Z.size = D.size) := Option.some.inj (IZ.out.symm.trans ic)
        clear ic oc e19 hD h38 hlt hge
        go_wp2_with (first | (refine wpList_load_row rfl 41 (.tmp 5) rfl R rfl 41 D (0, 0) _ GR.out Try.underlying41 rfl IC.out ?_; refine wpList_store_row rfl 41 (.tmp 2) (.tmp 39) rfl w.heap.size D rfl rfl 41 Z GZ.out IC.out IZC.out OC.out ?_))
        have YZ : Hid (_ = some (Obj.cells D 41 (0, 0))) := setRow_heap _ w.heap.size Z D _ _ GZ.out
        refine bodyPost_ret (v := .tuple #[.agg D, .int .i64 0]) (results_ct rfl _ _ w.heap.size 41 D (0, 0) _ (.int .i64 0) rfl rfl YZ.out Try.underlying41 ⟨_, rfl⟩ IC.out) rfl ?_
        exact FIN.out _ (HB.out.trans (below_row _ _ (Nat.le_refl _)))
      · have e19 := E19.out
        rw [decide_eq_false h38] at e19
        have FIN := Lib.hid (FINN.out h38)
        generalize endE (S 19).1 (S 19).2 = E at e19 ⊢
        have he2 : (E != 0) = true := by rw [bne, e19]; rfl
        clear ic oc e19 h38 hlt hge
        go_wp2_with (first | (refine wpList_build0 rfl 41 rfl (BZ.out wr) ?_; refine wpList_store_row rfl 41 (.tmp 2) (.tmp 38) rfl w.heap.size Z rfl rfl 41 Z GZ.out IZ.out rfl OZ.out ?_))
        have YZ : Hid (_ = some (Obj.cells Z 41 (0, 0))) := setRow_heap _ w.heap.size Z Z _ _ GZ.out
        refine bodyPost_ret (v := .tuple #[.agg Z, .int .i64 3]) (results_ct rfl _ _ w.heap.size 41 Z (0, 0) _ (.int .i64 3) rfl rfl YZ.out Try.underlying41 ⟨_, rfl⟩ IZ.out) rfl ?_
        exact FIN.out _ (HB.out.trans (below_row _ _ (Nat.le_refl _)))
end Go.Proofs.Ytabopcfhonkecaa
