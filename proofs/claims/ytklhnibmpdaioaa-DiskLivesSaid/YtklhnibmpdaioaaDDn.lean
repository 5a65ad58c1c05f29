/-
  For every byte and every slice of ops the law DiskDown of package casematelaw11 returns true, and the arguments read afterwards as before: a disk that is down stays as it is till a crash. Condition: none.
-/
import Derived.Test.YtklhnibmpdaioaaDO
import Derived.Test.YtklhnibmpdaioaaDN
import Derived.Deep.RegionHeld3
import Derived.Laws.BytesArg
namespace Go.Proofs.Ytklhnibmpdaioaa.diskDown
open Go.ChangeShapes Go.WideShapes Go.ChangeAt Go.RowKit
/-- The writes that wait. -/
def down (i : Nat) : List (Nat × Nat) := (List.range i).map (fun j => (j % 4, j))
theorem down_len (i : Nat) : (down i).length = i := by simp [down]
theorem down_succ (i : Nat) : down i ++ [(i % 4, i)] = down (i + 1) := by simp [down, List.range_succ]
theorem and15 : ∀ n : Fin 256, bits .and .u8 (n.val : Int) 15 = ((n.val % 16 : Nat) : Int) := by decide +kernel
theorem and3 : ∀ n : Fin 16, bits .and .i64 (n.val : Int) 3 = ((n.val % 4 : Nat) : Int) := by decide +kernel
theorem u32_and3 (m : Nat) (hm : m < 4294967296) : ∃ k : Nat, bits .and .u32 (m : Int) 3 = (k : Int) ∧ k ≤ 3 := by
  refine ⟨m &&& 3, ?_, Nat.and_le_right⟩
  show IntKind.u32.wrap ((BitVec.ofInt 32 (m : Int) &&& BitVec.ofInt 32 ((3 : Nat) : Int)).toNat : Int) = _
  rw [BitVec.toNat_and, BitVec.ofInt_natCast, BitVec.ofInt_natCast, BitVec.toNat_ofNat, BitVec.toNat_ofNat, Nat.mod_eq_of_lt hm, Nat.mod_eq_of_lt (by decide : 3 < 2 ^ 32)]
  have h := Nat.and_le_right (n := m) (m := 3)
  generalize m &&& 3 = z at *
  have : IntKind.u32.wrap (z : Int) = (z : Int) % 4294967296 := by simp [IntKind.wrap, IntKind.bits, IntKind.signed]
  rw [this]
  omega
theorem rE_down (s N : Nat) : rE true s N = 30 := by
  unfold rE
  by_cases h : s < N
  · rw [if_pos h]; rfl
  · rw [if_neg h]; rfl
theorem wE_down (s N n : Nat) : wE true s N n = 30 := by
  unfold wE
  by_cases h : s < N <;> by_cases h' : n = 512 <;> simp only [h, h', if_true, if_false] <;> rfl
theorem keep_none (f : Nat → Int) (ws : List (Nat × Nat)) : ∀ n, keepS (kbit f 0) (fun _ => none) ws n = fun _ => none
  | 0 => rfl
  | n + 1 => by rw [keepS_no (by simp [kbit]), keep_none f ws n]
/-- A slice of ops. -/
def OS (w : World) (x : Option Addr) (l : Nat) : Prop := l ≤ maxLen ∧ ∀ i, i < l → ∃ (k : Int) (s y : Nat) (n : Int) (x' : Option Addr) (l' c' b o : Nat), x = some ⟨b, o, none⟩ ∧ b < w.heap.size ∧ s < 4294967296 ∧ y < 256 ∧
  w.cell? ⟨b, o + i * 5, none⟩ = some (.int .i64 k) ∧ w.cell? ⟨b, o + i * 5 + 1, none⟩ = some (.int .u32 s) ∧ w.cell? ⟨b, o + i * 5 + 2, none⟩ = some (.int .u8 y) ∧ w.cell? ⟨b, o + i * 5 + 3, none⟩ = some (.int .i64 n) ∧ w.cell? ⟨b, o + i * 5 + 4, none⟩ = some (.slice x' l' c')
theorem str_tx {w : World} {b y : Nat} (h : w.heap[b]? = some (.cells (bcells (tx y)) 5 (0, 0))) : (convert 32 9 (.slice (some ⟨b, 0, none⟩) 512 512)).run Try.prog w = .ok (.string (strOfNums ((tx y).map fun n : Nat => (n : Int)))) w :=
  run_convert_bytes_arg w 32 5 Try.underlying32 Try.underlying5 b 0 512 512 ((tx y).map fun n : Nat => (n : Int)) (by rw [List.length_map, tx_len]) (fun i hi => by
    have e : (tx y)[i]? = some y := by unfold tx; rw [List.getElem?_replicate]; exact if_pos hi
    rw [cell_of_row _ _ _ _ _ _ h, Nat.zero_add]
    unfold bcells
    rw [List.getElem?_toArray, List.getElem?_map, e, List.getD_eq_getElem?_getD, List.getElem?_map, e]
    rfl) 9 Try.underlying9
/-- An op in memory. -/
structure Opc (w : World) (q : Nat) (k : Int) (s y : Nat) (n : Int) (x : Option Addr) (l c : Nat) : Prop where
  row : w.heap[q]? = some (.cells #[.int .i64 k, .int .u32 s, .int .u8 y, .int .i64 n, .slice x l c] 34 (0, 0))
section
variable {w w' : World} {q : Nat} {k : Int} {s y : Nat} {n : Int} {x : Option Addr} {l c : Nat}
theorem Opc.below (h : Opc w q k s y n x l c) (b : Below w.heap.size w w') : Opc w' q k s y n x l c := ⟨(b.block q (Array.getElem?_eq_some_iff.1 h.row).1).trans h.row⟩
theorem Opc.c0 (h : Opc w q k s y n x l c) : w.cell? ⟨q, 0, none⟩ = some (.int .i64 k) := by rw [cell_of_row _ _ _ _ _ _ h.row]; rfl
theorem Opc.c1 (h : Opc w q k s y n x l c) : w.cell? ⟨q, 1, none⟩ = some (.int .u32 s) := by rw [cell_of_row _ _ _ _ _ _ h.row]; rfl
theorem Opc.c2 (h : Opc w q k s y n x l c) : w.cell? ⟨q, 2, none⟩ = some (.int .u8 y) := by rw [cell_of_row _ _ _ _ _ _ h.row]; rfl
end
set_option maxRecDepth 100000 in
set_option maxHeartbeats 16000000 in
theorem walk (n : Nat) (hn : n < 256) (x : Option Addr) (l c : Nat) (w : World) (hx : OS w x l) :
    Calls Try.prog 7 #[.int .u8 n, .slice x l c] w fun e w' => e = .returned (.bool true) ∧ Below w.heap.size w w' := by
  have X := Lib.hid hx.2
  have hlm : l ≤ 9223372036854775807 := by have := hx.1; unfold maxLen at this; omega
  clear hx
  have hk := and15 ⟨n, hn⟩
  simp only at hk
  obtain ⟨k, hk2⟩ : ∃ k, k = n % 16 := ⟨_, rfl⟩
  rw [← hk2] at hk
  have KL : Hid (k < 16) := by show _ < _; omega
  have hk0 : (k : Int) ≤ 15 := by have := KL.out; omega
  clear hk2 hn
  go_enter Try.func7, Try.ntmps7
  go_wp2_with fail
  refine (newD 4 (by omega) (by omega) w).mono ?_
  rintro e w1 ⟨g, sb, hb, rfl, h, h1, h2, h3, hbl⟩
  have L1 : Hid (LK w w1 g 4 sb hb (.slice none 0 0) (fun _ => none) [] (List.replicate 64 (.int .u8 0)) 0 (-1) false 0) := ⟨h, hbl, h1, h2, h3, fun k hk => by simp [Value.ownBlock] at hk⟩
  have RL : Hid (∀ v ∈ List.replicate 64 (Value.int .u8 0), v.oneCell' = true) := fun v hv => by rw [List.eq_of_mem_replicate hv]; rfl
  clear h hbl h1 h2 h3
  have ZR : Hid ((List.replicate 64 (Value.int .u8 0)).toArray = zer64) := by show _ = _; rfl
  generalize List.replicate 64 (Value.int .u8 0) = rg at *
  go_wp2_with fail
  refine (failD_ok L1.out.dk k).mono ?_
  rintro e w2 ⟨v2, rfl, hd⟩
  have L2 := Lib.hid (L1.out.step hd)
  clear hd L1
  go_wp2_with fail
  go_loopg [8, 32, 33, 34, 35, 36, 37, 38, 39, 40, 41, 42, 43, 44, 45] k (fun r vi _ _ _ _ _ _ _ _ _ _ _ _ _ _ wr => ∃ (i : Nat) (wv : Value), r + i = k ∧ vi = .int .i64 i ∧ LK w wr g 4 sb hb wv (fun _ => none) (down i) rg i ((k : Int) - i) false i)
  case atStart => exact ⟨0, v2, by omega, rfl, by simpa [down] using L2.out⟩
  case round =>
    clear L2
    obtain ⟨i, wv, hr, rfl, hs⟩ := hrel
    have S := Lib.hid hs
    have HR := Lib.hid hr
    clear hs hr
    by_cases hlt : i < k
    · have ha := and3 ⟨i, by have := KL.out; omega⟩
      simp only at ha
      have hi16 : (i : Int) ≤ 15 := by omega
      have h4 : ((i % 4 : Nat) : Int) ≤ 3 := by omega
      go_wp2_with fail
      refine (fullAny i 0 512 (.inr ⟨by omega, rfl⟩) wr).mono ?_
      rintro e w3 ⟨b3, rfl, k1, _, k3⟩
      have S3 := Lib.hid (S.out.below k3)
      have T3 : Hid (TX w3 (.slice (some ⟨b3, 0, none⟩) 512 512) (tx i)) := ⟨b3, by rw [tx_len], k1⟩
      clear k1 k3 S
      go_wp2_with fail
      refine (writeD_ok S3.out.dk (i % 4) i _ (by omega) T3.out (by omega) (by omega) (by omega) (by omega) (by omega) (by omega)).mono ?_
      rintro e w4 ⟨v4, rfl, hd⟩
      have S4 := S3.out.step hd
      rw [down_succ, show pl ((k : Int) - i) = (k : Int) - ((i + 1 : Nat) : Int) by unfold pl; rw [if_neg (by omega)]; omega] at S4
      have S5 := Lib.hid S4
      clear hd S4 S3 T3
      go_wp2_with fail
      go_roundg (k - (i + 1))
      case measure => have := HR.out; omega
      case rel => exact ⟨i + 1, v4, by omega, by go_num, S5.out⟩
    · have hik : i = k := by have := HR.out; omega
      subst hik
      have S0 : Hid (LK w wr g 4 sb hb wv (fun _ => none) (down i) rg i 0 false i) := by
        show LK _ _ _ _ _ _ _ _ _ _ _ _ _ _
        have := S.out
        rw [Int.sub_self] at this
        exact this
      clear S HR
      go_wp2_with fail
      refine (downD S0.out.dk).mono ?_
      rintro e w' ⟨rfl, rfl⟩
      go_wp2_with fail
      refine (flushD_down S0.out.dk).mono ?_
      rintro e w3 ⟨v3, rfl, hd⟩
      have S3 := Lib.hid (S0.out.step hd)
      clear hd S0
      go_wp2_with fail
      refine (downD S3.out.dk).mono ?_
      rintro e w' ⟨rfl, rfl⟩
      go_wp2_with fail
      refine (waitsD S3.out.dk).mono ?_
      rintro e w' ⟨rfl, rfl⟩
      rw [down_len]
      go_wp2_with fail
      go_loopg [9, 10, 11, 64, 65, 66, 67, 68, 69, 70, 71, 72, 73, 74, 75, 76, 77, 78, 79, 80, 81, 82, 83, 84, 85, 86, 87, 88, 89, 90, 91, 92, 93, 94, 95, 96, 97, 98, 99, 100, 101, 102, 103, 104, 105, 106, 107, 108, 109, 110, 111, 112, 113, 114, 115, 116, 117, 118, 119, 120, 121, 122] (min l 60) (fun r vi _ _ _ _ _ _ _ _ _ _ _ _ _ _ _ _ _ _ _ _ _ _ _ _ _ _ _ _ _ _ _ _ _ _ _ _ _ _ _ _ _ _ _ _ _ _ _ _ _ _ _ _ _ _ _ _ _ _ _ _ _ wr => ∃ (j : Nat) (wv : Value), r + j = min l 60 ∧ vi = .int .i64 j ∧ LK w wr g 4 sb hb wv (fun _ => none) (down i) rg i 0 true i)
      case atStart => exact ⟨0, v3, by omega, rfl, S3.out⟩
      case round =>
        clear S3
        obtain ⟨j, wv, hr, rfl, hs⟩ := hrel
        have S := Lib.hid hs
        have HR := Lib.hid hr
        clear hs hr
        by_cases hlt : j < l ∧ j < 60
        · obtain ⟨hj1, hj2⟩ := hlt
          obtain ⟨kd, s, y, n', x', l', c', b, o, rfl, hbl, hs4, hy, c0, c1, c2, c3, c4⟩ := X.out j hj1
          have e0 := (S.out.b.cell (p := ⟨b, o + j * 5, none⟩) hbl).trans c0
          have e1 := (S.out.b.cell (p := ⟨b, o + j * 5 + 1, none⟩) hbl).trans c1
          have e2 := (S.out.b.cell (p := ⟨b, o + j * 5 + 2, none⟩) hbl).trans c2
          have e3 := (S.out.b.cell (p := ⟨b, o + j * 5 + 3, none⟩) hbl).trans c3
          have e4 := (S.out.b.cell (p := ⟨b, o + j * 5 + 4, none⟩) hbl).trans c4
          obtain ⟨s3, hs3, hs33⟩ := u32_and3 s hs4
          have hs3i : (s3 : Int) ≤ 3 := by omega
          have HY : Hid (y < 256) := hy
          clear c0 c1 c2 c3 c4 hbl hs4 hy hs33
          have CE : Hid (Below wr.heap.size wr (wr.alloc (.cells #[.int .i64 kd, .int .u32 s, .int .u8 y, .int .i64 n', .slice x' l' c'] 34))) := (Below.refl _ _).alloc (Nat.le_refl _) _
          have S1 := Lib.hid (S.out.below CE.out)
          have O1 : Hid (Opc (wr.alloc (.cells #[.int .i64 kd, .int .u32 s, .int .u8 y, .int .i64 n', .slice x' l' c'] 34)) wr.heap.size kd s y n' x' l' c') := ⟨heap_alloc_new _ _⟩
          clear CE
          by_cases k0 : kd = 0
          · have q0 : (kd == 0) = true := by simp [k0]
            clear k0
            go_wp2_with fail
            obtain ⟨q, hq⟩ : ∃ q, q = wr.heap.size := ⟨_, rfl⟩
            obtain ⟨v0, hv0⟩ : ∃ v0, v0 = wr.alloc (.cells #[.int .i64 kd, .int .u32 s, .int .u8 y, .int .i64 n', .slice x' l' c'] 34) := ⟨_, rfl⟩
            rw [← hv0, ← hq] at O1
            rw [← hv0] at S1
            rw [← hv0, ← hq]
            clear hv0 hq e0 e1 e2 e3 e4 S
            have f1 := O1.out.c1
            have f2 := O1.out.c2
            have D1 : Hid (LK w v0.drew g 4 sb hb wv (fun _ => none) (down i) rg i 0 true i) := S1.out.below ((Below.refl _ _).drew)
            have P1 : Hid (Opc v0.drew q kd s y n' x' l' c') := ⟨O1.out.row⟩
            go_region_held3 (fun W => W.cell? ⟨q, 1, none⟩ = some (.int .u32 s) ∧ W.cell? ⟨q, 2, none⟩ = some (.int .u8 y)) (go_keep)
              (first
                | (go_at_call 33; refine (fullAny y 0 512 (.inr ⟨by omega, rfl⟩) _).mono ?_; rintro e w3 ⟨b3, rfl, _, _, k3⟩; have S3 := Lib.hid (D1.out.below k3); have P3 := Lib.hid (P1.out.below k3); clear k3; have g1 := P3.out.c1; have g2 := P3.out.c2)
                | (go_at_call 27; refine (writeD_err S3.out.dk s3 _ 512 512 (by omega) (by rw [wE_down]; decide)).mono ?_; rintro e w4 ⟨rfl, hb4⟩; have S4 := Lib.hid (S3.out.below hb4); have P4 := Lib.hid (P3.out.below hb4); clear hb4; rw [wE_down]; have g3 := P4.out.c1; have g4 := P4.out.c2))
            go_wp2_with fail
            refine (waitsD S4.out.dk).mono ?_
            rintro e w' ⟨rfl, rfl⟩
            rw [down_len]
            go_wp2_with fail
            refine (callsD S4.out.dk).mono ?_
            rintro e w' ⟨rfl, rfl⟩
            go_wp2_with fail
            go_roundg (min l 60 - (j + 1))
            case measure => have := HR.out; omega
            case rel => exact ⟨j + 1, _, by omega, by go_num, S4.out⟩
          · have q0 : (kd == 0) = false := by simp [k0]
            by_cases k1 : kd = 1
            · have q1 : (kd == 1) = true := by simp [k1]
              clear k0 k1
              go_wp2_with fail
              refine (readD_err S1.out.dk s3 (by rw [rE_down]; decide)).mono ?_
              rintro e w4 ⟨rfl, hb4⟩
              have S4 := Lib.hid (S1.out.below hb4)
              clear hb4
              rw [rE_down]
              go_wp2_with fail
              refine (waitsD S4.out.dk).mono ?_
              rintro e w' ⟨rfl, rfl⟩
              rw [down_len]
              go_wp2_with fail
              refine (callsD S4.out.dk).mono ?_
              rintro e w' ⟨rfl, rfl⟩
              go_wp2_with fail
              go_roundg (min l 60 - (j + 1))
              case measure => have := HR.out; omega
              case rel => exact ⟨j + 1, _, by omega, by go_num, S4.out⟩
            · have q1 : (kd == 1) = false := by simp [k1]
              by_cases k2 : kd = 2
              · have q2 : (kd == 2) = true := by simp [k2]
                clear k0 k1 k2
                go_wp2_with fail
                refine (flushD_isdown S1.out.dk).mono ?_
                rintro e w4 ⟨rfl, rfl⟩
                go_wp2_with fail
                refine (waitsD S1.out.dk).mono ?_
                rintro e w' ⟨rfl, rfl⟩
                rw [down_len]
                go_wp2_with fail
                refine (callsD S1.out.dk).mono ?_
                rintro e w' ⟨rfl, rfl⟩
                go_wp2_with fail
                go_roundg (min l 60 - (j + 1))
                case measure => have := HR.out; omega
                case rel => exact ⟨j + 1, _, by omega, by go_num, S1.out⟩
              · have q2 : (kd == 2) = false := by simp [k2]
                by_cases k3 : kd = 3
                · have q3 : (kd == 3) = true := by simp [k3]
                  clear k0 k1 k2 k3
                  go_wp2_with fail
                  refine (setregD_isdown S1.out.dk _).mono ?_
                  rintro e w4 ⟨rfl, hb4⟩
                  have S4 := Lib.hid (S1.out.below hb4)
                  clear hb4
                  go_wp2_with fail
                  refine (waitsD S4.out.dk).mono ?_
                  rintro e w' ⟨rfl, rfl⟩
                  rw [down_len]
                  go_wp2_with fail
                  refine (callsD S4.out.dk).mono ?_
                  rintro e w' ⟨rfl, rfl⟩
                  go_wp2_with fail
                  go_roundg (min l 60 - (j + 1))
                  case measure => have := HR.out; omega
                  case rel => exact ⟨j + 1, _, by omega, by go_num, S4.out⟩
                · have q3 : (kd == 3) = false := by simp [k3]
                  clear k0 k1 k2 k3
                  go_wp2_with fail
                  refine (waitsD S1.out.dk).mono ?_
                  rintro e w' ⟨rfl, rfl⟩
                  rw [down_len]
                  go_wp2_with fail
                  refine (callsD S1.out.dk).mono ?_
                  rintro e w' ⟨rfl, rfl⟩
                  go_wp2_with fail
                  go_roundg (min l 60 - (j + 1))
                  case measure => have := HR.out; omega
                  case rel => exact ⟨j + 1, _, by omega, by go_num, S1.out⟩
        · by_cases hj1 : j < l
          · have hj2 : ¬ j < 60 := by omega
            go_wp2_with fail
            refine (crashD S.out.dk none 0 0 (fun _ => 0) (by omega) (fun j hj => by omega)).mono ?_
            rintro e w4 ⟨v4, rfl, hd⟩
            rw [keep_none] at hd
            have S4 := Lib.hid (S.out.step hd)
            clear hd S
            have R := Lib.hid (regD_ok S4.out.dk RL.out)
            go_wp2_with fail
            refine R.out.mono ?_
            rintro e w5 ⟨rfl, hb5⟩
            have S5 := Lib.hid (S4.out.below hb5)
            clear R hb5 S4
            have hz : ∀ w, (zeroValue 44).run Try.prog w = .ok (.agg rg.toArray) w := fun w => by rw [ZR.out]; exact zero44 w
            have IZ : Hid ((Try.prog.info? 44).map (·.size) = some rg.toArray.size) := by show _ = _; rw [ZR.out]; exact info44s.trans (by rfl)
            have ON : Hid (rg.toArray.all (·.oneCell') = true) := all_oneCell_toArray RL.out
            have BU : Try.prog.built 44 [] = some rg.toArray := by rw [ZR.out]; kernel_rfl
            have EQ : ∀ w, (binOp .eql 44 (.agg rg.toArray) (.agg rg.toArray)).run Try.prog w = .ok (.bool true) w := fun w => by rw [ZR.out]; kernel_rfl
            have EG : ∀ w, (eqGuard .eql 44 (.tmp 141) (.tmp 142) (.agg rg.toArray) (.agg rg.toArray)).run Try.prog w = .ok () w := fun w => by rw [ZR.out]; kernel_rfl
            have G5 : Hid ((w5.alloc (.cells rg.toArray 44)).heap[w5.heap.size]? = some (.cells rg.toArray 44 (0, 0))) := heap_alloc_new _ _
            have S6 := Lib.hid (S5.out.below ((Below.refl _ _).alloc (Nat.le_refl _) (.cells rg.toArray 44)))
            clear S5
            go_wp2_with (refine wpList_store_row rfl 44 (.tmp 12) (.tmp 128) rfl w5.heap.size rg.toArray rfl rfl 44 rg.toArray G5.out IZ.out rfl ON.out ?_)
            rw [alloc_setRow]
            refine (readD_ok S6.out.dk 0 (by omega)).mono ?_
            rintro e w7 ⟨b7, rfl, m1, _, m3⟩
            have S7 := Lib.hid (S6.out.below m3)
            have M1 : Hid (w7.heap[b7]? = some (.cells (bcells (tx 0)) 5 (0, 0))) := m1
            obtain ⟨r5, hr5⟩ : ∃ r5, r5 = w5.heap.size := ⟨_, rfl⟩
            have G7 : Hid (w7.heap[r5]? = some (.cells rg.toArray 44 (0, 0))) := by
              show _ = _
              rw [hr5, m3.block _ (Array.getElem?_eq_some_iff.1 G5.out).1]
              exact G5.out
            rw [← hr5]
            clear hr5 m1 m3 S6 G5
            obtain ⟨st, hst⟩ : ∃ st, st = strOfNums ((tx 0).map fun n : Nat => (n : Int)) := ⟨_, rfl⟩
            have ST : Hid (∀ (W : World) (b : Nat), W.heap[b]? = some (.cells (bcells (tx 0)) 5 (0, 0)) → (convert 32 9 (.slice (some ⟨b, 0, none⟩) 512 512)).run Try.prog W = .ok (.string st) W) := fun W b h => by rw [hst]; exact str_tx h
            clear hst
            have RG : Hid (∀ W : World, W.heap[r5]? = some (.cells rg.toArray 44 (0, 0)) → W.rangeAt r5 0 rg) := fun W h j v hv => by
              rw [cell_of_row _ _ _ _ _ _ h, Nat.zero_add]; simpa using hv
            go_wp2_with fail
            have L5 : Hid (r5 < w7.heap.size) := (Array.getElem?_eq_some_iff.1 G7.out).1
            have L7 : Hid (b7 < w7.heap.size) := (Array.getElem?_eq_some_iff.1 M1.out).1
            have hi44 : (Try.prog.info? 44).map (·.size) = some rg.length := by have := IZ.out; rw [List.size_toArray] at this; exact this
            have HI := Lib.hid hi44
            clear hi44
            refine wp_region_held_drew (S := fun W => Below w7.heap.size w7 W) (by kernel_rfl) ((Below.refl _ _).drew) (fun hS => ?_)
            generalize w7.drew = wd at *
            refine wpAnyH_ready (rs := [0]) (by kernel_rfl) (by simp) ?_
            refine' AllReadyH.cons ?hoc0p (fun K hK => ?stc0p) AllReadyH.nil
            case hoc0p => (simp only [List.getElem?_toArray, List.getElem?_cons_zero]; rfl)
            go_simp
            refine (aliveD _).mono ?_
            rintro e w8 ⟨rfl, hb⟩
            go_wp2_with fail
            refine hK.out _ _ (hS.trans (hb.mono hS.size)) (fun hHeld => ?_)
            clear hK K
            try simp only [Act.put, List.setIfInBounds_toArray, List.set_cons_succ, List.set_cons_zero]
            clear hS hb
            have hS := hHeld
            clear hHeld
            refine' wpAnyH_take (i := 1) ?h1x1p ?hsx1p ?hfx1p ?hrx1p ?hQx1p (Or.inl ⟨?hwx1p, ?hyx1p⟩) hS ?restx1p
            case h1x1p => (simp only [List.getElem?_toArray, List.getElem?_cons_succ, List.getElem?_cons_zero]; rfl)
            case hsx1p => kernel_rfl
            case hfx1p => kernel_rfl
            case hrx1p => kernel_rfl
            case hQx1p => exact fun _ _ _ h => h
            case hwx1p => rfl
            case hyx1p =>
              intro W hW
              go_simp
              try with_reducible rfl
            simp only [Act.put, List.setIfInBounds_toArray, List.set_cons_succ, List.set_cons_zero]
            refine' wpAnyH_take (i := 2) ?h1x2p ?hsx2p ?hfx2p ?hrx2p ?hQx2p (Or.inl ⟨?hwx2p, ?hyx2p⟩) hS ?restx2p
            case h1x2p => (simp only [List.getElem?_toArray, List.getElem?_cons_succ, List.getElem?_cons_zero]; rfl)
            case hsx2p => kernel_rfl
            case hfx2p => kernel_rfl
            case hrx2p => kernel_rfl
            case hQx2p => exact fun _ _ _ h => h
            case hwx2p => rfl
            case hyx2p =>
              intro W hW
              go_simp
              try with_reducible rfl
            simp only [Act.put, List.setIfInBounds_toArray, List.set_cons_succ, List.set_cons_zero]
            refine' wpAnyH_take (i := 3) ?h1x3p ?hsx3p ?hfx3p ?hrx3p ?hQx3p (Or.inl ⟨?hwx3p, ?hyx3p⟩) hS ?restx3p
            case h1x3p => (simp only [List.getElem?_toArray, List.getElem?_cons_succ, List.getElem?_cons_zero]; rfl)
            case hsx3p => kernel_rfl
            case hfx3p => kernel_rfl
            case hrx3p => kernel_rfl
            case hQx3p => exact fun _ _ _ h => h
            case hwx3p => rfl
            case hyx3p =>
              intro W hW
              go_simp
              try with_reducible rfl
            simp only [Act.put, List.setIfInBounds_toArray, List.set_cons_succ, List.set_cons_zero]
            refine' wpAnyH_take (i := 4) ?h1x4p ?hsx4p ?hfx4p ?hrx4p ?hQx4p (Or.inl ⟨?hwx4p, ?hyx4p⟩) hS ?restx4p
            case h1x4p => (simp only [List.getElem?_toArray, List.getElem?_cons_succ, List.getElem?_cons_zero]; rfl)
            case hsx4p => kernel_rfl
            case hfx4p => kernel_rfl
            case hrx4p => kernel_rfl
            case hQx4p => exact fun _ _ _ h => h
            case hwx4p => rfl
            case hyx4p =>
              intro W hW
              go_simp
              try with_reducible rfl
            simp only [Act.put, List.setIfInBounds_toArray, List.set_cons_succ, List.set_cons_zero]
            refine' wpAnyH_take (i := 5) ?h1x5p ?hsx5p ?hfx5p ?hrx5p ?hQx5p (Or.inl ⟨?hwx5p, ?hyx5p⟩) hS ?restx5p
            case h1x5p => (simp only [List.getElem?_toArray, List.getElem?_cons_succ, List.getElem?_cons_zero]; rfl)
            case hsx5p => kernel_rfl
            case hfx5p => kernel_rfl
            case hrx5p => kernel_rfl
            case hQx5p => exact fun _ _ _ h => h
            case hwx5p => rfl
            case hyx5p =>
              intro W hW
              go_simp
              try with_reducible rfl
            simp only [Act.put, List.setIfInBounds_toArray, List.set_cons_succ, List.set_cons_zero]
            refine' wpAnyH_take (i := 6) ?h1x6p ?hsx6p ?hfx6p ?hrx6p ?hQx6p (yieldsIf_load_mid ?hwx6p 44 (.tmp 12) ?hopx6p r5 0 rfl rg _ (fun W hW => RG.out W ((hW.block _ L5.out).trans G7.out)) Try.underlying44 rfl ?hix6p) hS ?restx6p
            case h1x6p => (simp only [List.getElem?_toArray, List.getElem?_cons_succ, List.getElem?_cons_zero]; rfl)
            case hopx6p => rfl
            case hsx6p => kernel_rfl
            case hfx6p => kernel_rfl
            case hrx6p => kernel_rfl
            case hQx6p => exact fun _ _ _ h => h
            case hwx6p => rfl
            case hix6p => exact HI.out
            simp only [Act.put, List.setIfInBounds_toArray, List.set_cons_succ, List.set_cons_zero]
            refine' wpAnyH_take (i := 7) ?h1x7p ?hsx7p ?hfx7p ?hrx7p ?hQx7p (Or.inl ⟨?hwx7p, ?hyx7p⟩) hS ?restx7p
            case h1x7p => (simp only [List.getElem?_toArray, List.getElem?_cons_succ, List.getElem?_cons_zero]; rfl)
            case hsx7p => kernel_rfl
            case hfx7p => kernel_rfl
            case hrx7p => kernel_rfl
            case hQx7p => exact fun _ _ _ h => h
            case hwx7p => rfl
            case hyx7p =>
              intro W hW
              go_simp
              try with_reducible rfl
            simp only [Act.put, List.setIfInBounds_toArray, List.set_cons_succ, List.set_cons_zero]
            refine' wpAnyH_take (i := 8) ?h1x8p ?hsx8p ?hfx8p ?hrx8p ?hQx8p (Or.inl ⟨?hwx8p, ?hyx8p⟩) hS ?restx8p
            case h1x8p => (simp only [List.getElem?_toArray, List.getElem?_cons_succ, List.getElem?_cons_zero]; rfl)
            case hsx8p => kernel_rfl
            case hfx8p => kernel_rfl
            case hrx8p => kernel_rfl
            case hQx8p => exact fun _ _ _ h => h
            case hwx8p => rfl
            case hyx8p =>
              intro W hW
              go_simp
              try with_reducible rfl
            simp only [Act.put, List.setIfInBounds_toArray, List.set_cons_succ, List.set_cons_zero]
            refine' wpAnyH_take (i := 9) ?h1x9p ?hsx9p ?hfx9p ?hrx9p ?hQx9p (Or.inl ⟨?hwx9p, ?hyx9p⟩) hS ?restx9p
            case h1x9p => (simp only [List.getElem?_toArray, List.getElem?_cons_succ, List.getElem?_cons_zero]; rfl)
            case hsx9p => kernel_rfl
            case hfx9p => kernel_rfl
            case hrx9p => kernel_rfl
            case hQx9p => exact fun _ _ _ h => h
            case hwx9p => rfl
            case hyx9p =>
              intro W hW
              go_simp
              try with_reducible rfl
            simp only [Act.put, List.setIfInBounds_toArray, List.set_cons_succ, List.set_cons_zero]
            refine' wpAnyH_take (i := 10) ?h1x10p ?hsx10p ?hfx10p ?hrx10p ?hQx10p (Or.inl ⟨?hwx10p, ?hyx10p⟩) hS ?restx10p
            case h1x10p => (simp only [List.getElem?_toArray, List.getElem?_cons_succ, List.getElem?_cons_zero]; rfl)
            case hsx10p => kernel_rfl
            case hfx10p => kernel_rfl
            case hrx10p => kernel_rfl
            case hQx10p => exact fun _ _ _ h => h
            case hwx10p => rfl
            case hyx10p =>
              intro W hW
              go_simp
              try with_reducible rfl
            simp only [Act.put, List.setIfInBounds_toArray, List.set_cons_succ, List.set_cons_zero]
            refine' wpAnyH_take (i := 11) ?h1x11p ?hsx11p ?hfx11p ?hrx11p ?hQx11p (Or.inl ⟨?hwx11p, ?hyx11p⟩) hS ?restx11p
            case h1x11p => (simp only [List.getElem?_toArray, List.getElem?_cons_succ, List.getElem?_cons_zero]; rfl)
            case hsx11p => kernel_rfl
            case hfx11p => kernel_rfl
            case hrx11p => kernel_rfl
            case hQx11p => exact fun _ _ _ h => h
            case hwx11p => rfl
            case hyx11p =>
              intro W hW
              go_simp
              try with_reducible rfl
            simp only [Act.put, List.setIfInBounds_toArray, List.set_cons_succ, List.set_cons_zero]
            refine' wpAnyH_take (i := 12) ?h1x12p ?hsx12p ?hfx12p ?hrx12p ?hQx12p (Or.inl ⟨?hwx12p, ?hyx12p⟩) hS ?restx12p
            case h1x12p => (simp only [List.getElem?_toArray, List.getElem?_cons_succ, List.getElem?_cons_zero]; rfl)
            case hsx12p => kernel_rfl
            case hfx12p => kernel_rfl
            case hrx12p => kernel_rfl
            case hQx12p => exact fun _ _ _ h => h
            case hwx12p => rfl
            case hyx12p =>
              intro W hW
              go_simp
              try with_reducible rfl
            simp only [Act.put, List.setIfInBounds_toArray, List.set_cons_succ, List.set_cons_zero]
            refine' wpAnyH_take (i := 13) ?h1x13p ?hsx13p ?hfx13p ?hrx13p ?hQx13p (Or.inl ⟨?hwx13p, ?hyx13p⟩) hS ?restx13p
            case h1x13p => (simp only [List.getElem?_toArray, List.getElem?_cons_succ, List.getElem?_cons_zero]; rfl)
            case hsx13p => kernel_rfl
            case hfx13p => kernel_rfl
            case hrx13p => kernel_rfl
            case hQx13p => exact fun _ _ _ h => h
            case hwx13p => rfl
            case hyx13p =>
              intro W hW
              go_simp
              try with_reducible rfl
            simp only [Act.put, List.setIfInBounds_toArray, List.set_cons_succ, List.set_cons_zero]
            refine' wpAnyH_take (i := 14) ?h1x14p ?hsx14p ?hfx14p ?hrx14p ?hQx14p (Or.inl ⟨?hwx14p, ?hyx14p⟩) hS ?restx14p
            case h1x14p => (simp only [List.getElem?_toArray, List.getElem?_cons_succ, List.getElem?_cons_zero]; rfl)
            case hsx14p => kernel_rfl
            case hfx14p => kernel_rfl
            case hrx14p => kernel_rfl
            case hQx14p => exact fun _ _ _ h => h
            case hwx14p => rfl
            case hyx14p =>
              intro W hW
              go_simp
              try with_reducible rfl
            simp only [Act.put, List.setIfInBounds_toArray, List.set_cons_succ, List.set_cons_zero]
            refine' wpAnyH_take (i := 15) ?h1x15p ?hsx15p ?hfx15p ?hrx15p ?hQx15p (Or.inl ⟨?hwx15p, ?hyx15p⟩) hS ?restx15p
            case h1x15p => (simp only [List.getElem?_toArray, List.getElem?_cons_succ, List.getElem?_cons_zero]; rfl)
            case hsx15p => kernel_rfl
            case hfx15p => kernel_rfl
            case hrx15p => kernel_rfl
            case hQx15p => exact fun _ _ _ h => h
            case hwx15p => rfl
            case hyx15p =>
              intro W hW
              go_simp
              try with_reducible rfl
            simp only [Act.put, List.setIfInBounds_toArray, List.set_cons_succ, List.set_cons_zero]
            refine' wpAnyH_take (i := 16) ?h1x16p ?hsx16p ?hfx16p ?hrx16p ?hQx16p (Or.inl ⟨?hwx16p, ?hyx16p⟩) hS ?restx16p
            case h1x16p => (simp only [List.getElem?_toArray, List.getElem?_cons_succ, List.getElem?_cons_zero]; rfl)
            case hsx16p => kernel_rfl
            case hfx16p => kernel_rfl
            case hrx16p => kernel_rfl
            case hQx16p => exact fun _ _ _ h => h
            case hwx16p => rfl
            case hyx16p =>
              intro W hW
              have tt := ST.out W b7 ((hW.block _ L7.out).trans M1.out)
              go_simp
              try with_reducible rfl
            simp only [Act.put, List.setIfInBounds_toArray, List.set_cons_succ, List.set_cons_zero]
            refine wpAnyH_ready (rs := [17]) (by kernel_rfl) (by simp) ?_
            refine' AllReadyH.cons ?hoc17p (fun K hK => ?stc17p) AllReadyH.nil
            case hoc17p => (simp only [List.getElem?_toArray, List.getElem?_cons_succ, List.getElem?_cons_zero]; rfl)
            go_simp
            refine (fullAny 0 0 512 (.inr ⟨by omega, rfl⟩) _).mono ?_
            rintro e w9 ⟨b9, rfl, m9, _, hb⟩
            go_wp2_with fail
            refine hK.out _ _ (hS.trans (hb.mono hS.size)) (fun hHeld => ?_)
            clear hK K
            try simp only [Act.put, List.setIfInBounds_toArray, List.set_cons_succ, List.set_cons_zero]
            have t9 := ST.out _ b9 m9
            clear m9
            clear hS hb
            have hS := hHeld
            clear hHeld
            refine wpAnyH_ready (rs := [18]) (by kernel_rfl) (by simp) ?_
            refine' AllReadyH.cons ?hoc18p (fun K hK => ?stc18p) AllReadyH.nil
            case hoc18p => (simp only [List.getElem?_toArray, List.getElem?_cons_succ, List.getElem?_cons_zero]; rfl)
            go_simp
            refine hK.out _ _ hS (fun hHeld => ?_)
            clear hK K hHeld t9
            try simp only [Act.put, List.setIfInBounds_toArray, List.set_cons_succ, List.set_cons_zero]
            refine' wpAnyH_take (i := 19) ?h1x19p ?hsx19p ?hfx19p ?hrx19p ?hQx19p (Or.inl ⟨?hwx19p, ?hyx19p⟩) hS ?restx19p
            case h1x19p => (simp only [List.getElem?_toArray, List.getElem?_cons_succ, List.getElem?_cons_zero]; rfl)
            case hsx19p => kernel_rfl
            case hfx19p => kernel_rfl
            case hrx19p => kernel_rfl
            case hQx19p => exact fun _ _ _ h => h
            case hwx19p => rfl
            case hyx19p =>
              intro W hW
              go_simp
              try with_reducible rfl
            simp only [Act.put, List.setIfInBounds_toArray, List.set_cons_succ, List.set_cons_zero]
            refine' wpAnyH_take (i := 20) ?h1x20p ?hsx20p ?hfx20p ?hrx20p ?hQx20p (Or.inl ⟨?hwx20p, ?hyx20p⟩) hS ?restx20p
            case h1x20p => (simp only [List.getElem?_toArray, List.getElem?_cons_succ, List.getElem?_cons_zero]; rfl)
            case hsx20p => kernel_rfl
            case hfx20p => kernel_rfl
            case hrx20p => kernel_rfl
            case hQx20p => exact fun _ _ _ h => h
            case hwx20p => rfl
            case hyx20p =>
              intro W hW
              go_simp
              try with_reducible rfl
            simp only [Act.put, List.setIfInBounds_toArray, List.set_cons_succ, List.set_cons_zero]
            refine' wpAnyH_take (i := 21) ?h1x21p ?hsx21p ?hfx21p ?hrx21p ?hQx21p (Or.inl ⟨?hwx21p, ?hyx21p⟩) hS ?restx21p
            case h1x21p => (simp only [List.getElem?_toArray, List.getElem?_cons_succ, List.getElem?_cons_zero]; rfl)
            case hsx21p => kernel_rfl
            case hfx21p => kernel_rfl
            case hrx21p => kernel_rfl
            case hQx21p => exact fun _ _ _ h => h
            case hwx21p => rfl
            case hyx21p =>
              intro W hW
              go_simp
              try with_reducible rfl
            simp only [Act.put, List.setIfInBounds_toArray, List.set_cons_succ, List.set_cons_zero]
            refine' wpAnyH_take (i := 22) ?h1x22p ?hsx22p ?hfx22p ?hrx22p ?hQx22p (Or.inl ⟨?hwx22p, ?hyx22p⟩) hS ?restx22p
            case h1x22p => (simp only [List.getElem?_toArray, List.getElem?_cons_succ, List.getElem?_cons_zero]; rfl)
            case hsx22p => kernel_rfl
            case hfx22p => kernel_rfl
            case hrx22p => kernel_rfl
            case hQx22p => exact fun _ _ _ h => h
            case hwx22p => rfl
            case hyx22p =>
              intro W hW
              go_simp
              try with_reducible rfl
            simp only [Act.put, List.setIfInBounds_toArray, List.set_cons_succ, List.set_cons_zero]
            refine wpAnyH_ready (rs := [23]) (by kernel_rfl) (by simp) ?_
            refine' AllReadyH.cons ?hoc23p (fun K hK => ?stc23p) AllReadyH.nil
            case hoc23p => (simp only [List.getElem?_toArray, List.getElem?_cons_succ, List.getElem?_cons_zero]; rfl)
            go_simp
            refine (downD (S7.out.below hS).dk).mono ?_
            rintro e w' ⟨rfl, rfl⟩
            go_wp2_with fail
            refine hK.out _ _ hS (fun hHeld => ?_)
            clear hK K hHeld
            try simp only [Act.put, List.setIfInBounds_toArray, List.set_cons_succ, List.set_cons_zero]
            refine' wpAnyH_take (i := 24) ?h1x24p ?hsx24p ?hfx24p ?hrx24p ?hQx24p (Or.inl ⟨?hwx24p, ?hyx24p⟩) hS ?restx24p
            case h1x24p => (simp only [List.getElem?_toArray, List.getElem?_cons_succ, List.getElem?_cons_zero]; rfl)
            case hsx24p => kernel_rfl
            case hfx24p => kernel_rfl
            case hrx24p => kernel_rfl
            case hQx24p => exact fun _ _ _ h => h
            case hwx24p => rfl
            case hyx24p =>
              intro W hW
              go_simp
              try with_reducible rfl
            simp only [Act.put, List.setIfInBounds_toArray, List.set_cons_succ, List.set_cons_zero]
            refine' wpAnyH_take (i := 25) ?h1x25p ?hsx25p ?hfx25p ?hrx25p ?hQx25p (Or.inl ⟨?hwx25p, ?hyx25p⟩) hS ?restx25p
            case h1x25p => (simp only [List.getElem?_toArray, List.getElem?_cons_succ, List.getElem?_cons_zero]; rfl)
            case hsx25p => kernel_rfl
            case hfx25p => kernel_rfl
            case hrx25p => kernel_rfl
            case hQx25p => exact fun _ _ _ h => h
            case hwx25p => rfl
            case hyx25p =>
              intro W hW
              go_simp
              try with_reducible rfl
            simp only [Act.put, List.setIfInBounds_toArray, List.set_cons_succ, List.set_cons_zero]
            refine' wpAnyH_take (i := 26) ?h1x26p ?hsx26p ?hfx26p ?hrx26p ?hQx26p (Or.inl ⟨?hwx26p, ?hyx26p⟩) hS ?restx26p
            case h1x26p => (simp only [List.getElem?_toArray, List.getElem?_cons_succ, List.getElem?_cons_zero]; rfl)
            case hsx26p => kernel_rfl
            case hfx26p => kernel_rfl
            case hrx26p => kernel_rfl
            case hQx26p => exact fun _ _ _ h => h
            case hwx26p => rfl
            case hyx26p =>
              intro W hW
              go_simp
              try with_reducible rfl
            simp only [Act.put, List.setIfInBounds_toArray, List.set_cons_succ, List.set_cons_zero]
            refine wpAnyH_done (by kernel_rfl) ?_ _
            go_wp2_with fail
            go_ret
            exact ⟨rfl, (S7.out.below hS).b⟩
          · go_wp2_with fail
            refine (crashD S.out.dk none 0 0 (fun _ => 0) (by omega) (fun j hj => by omega)).mono ?_
            rintro e w4 ⟨v4, rfl, hd⟩
            rw [keep_none] at hd
            have S4 := Lib.hid (S.out.step hd)
            clear hd S
            have R := Lib.hid (regD_ok S4.out.dk RL.out)
            go_wp2_with fail
            refine R.out.mono ?_
            rintro e w5 ⟨rfl, hb5⟩
            have S5 := Lib.hid (S4.out.below hb5)
            clear R hb5 S4
            have hz : ∀ w, (zeroValue 44).run Try.prog w = .ok (.agg rg.toArray) w := fun w => by rw [ZR.out]; exact zero44 w
            have IZ : Hid ((Try.prog.info? 44).map (·.size) = some rg.toArray.size) := by show _ = _; rw [ZR.out]; exact info44s.trans (by rfl)
            have ON : Hid (rg.toArray.all (·.oneCell') = true) := all_oneCell_toArray RL.out
            have BU : Try.prog.built 44 [] = some rg.toArray := by rw [ZR.out]; kernel_rfl
            have EQ : ∀ w, (binOp .eql 44 (.agg rg.toArray) (.agg rg.toArray)).run Try.prog w = .ok (.bool true) w := fun w => by rw [ZR.out]; kernel_rfl
            have EG : ∀ w, (eqGuard .eql 44 (.tmp 141) (.tmp 142) (.agg rg.toArray) (.agg rg.toArray)).run Try.prog w = .ok () w := fun w => by rw [ZR.out]; kernel_rfl
            have G5 : Hid ((w5.alloc (.cells rg.toArray 44)).heap[w5.heap.size]? = some (.cells rg.toArray 44 (0, 0))) := heap_alloc_new _ _
            have S6 := Lib.hid (S5.out.below ((Below.refl _ _).alloc (Nat.le_refl _) (.cells rg.toArray 44)))
            clear S5
            go_wp2_with (refine wpList_store_row rfl 44 (.tmp 12) (.tmp 128) rfl w5.heap.size rg.toArray rfl rfl 44 rg.toArray G5.out IZ.out rfl ON.out ?_)
            rw [alloc_setRow]
            refine (readD_ok S6.out.dk 0 (by omega)).mono ?_
            rintro e w7 ⟨b7, rfl, m1, _, m3⟩
            have S7 := Lib.hid (S6.out.below m3)
            have M1 : Hid (w7.heap[b7]? = some (.cells (bcells (tx 0)) 5 (0, 0))) := m1
            obtain ⟨r5, hr5⟩ : ∃ r5, r5 = w5.heap.size := ⟨_, rfl⟩
            have G7 : Hid (w7.heap[r5]? = some (.cells rg.toArray 44 (0, 0))) := by
              show _ = _
              rw [hr5, m3.block _ (Array.getElem?_eq_some_iff.1 G5.out).1]
              exact G5.out
            rw [← hr5]
            clear hr5 m1 m3 S6 G5
            obtain ⟨st, hst⟩ : ∃ st, st = strOfNums ((tx 0).map fun n : Nat => (n : Int)) := ⟨_, rfl⟩
            have ST : Hid (∀ (W : World) (b : Nat), W.heap[b]? = some (.cells (bcells (tx 0)) 5 (0, 0)) → (convert 32 9 (.slice (some ⟨b, 0, none⟩) 512 512)).run Try.prog W = .ok (.string st) W) := fun W b h => by rw [hst]; exact str_tx h
            clear hst
            have RG : Hid (∀ W : World, W.heap[r5]? = some (.cells rg.toArray 44 (0, 0)) → W.rangeAt r5 0 rg) := fun W h j v hv => by
              rw [cell_of_row _ _ _ _ _ _ h, Nat.zero_add]; simpa using hv
            go_wp2_with fail
            have L5 : Hid (r5 < w7.heap.size) := (Array.getElem?_eq_some_iff.1 G7.out).1
            have L7 : Hid (b7 < w7.heap.size) := (Array.getElem?_eq_some_iff.1 M1.out).1
            have hi44 : (Try.prog.info? 44).map (·.size) = some rg.length := by have := IZ.out; rw [List.size_toArray] at this; exact this
            have HI := Lib.hid hi44
            clear hi44
            refine wp_region_held_drew (S := fun W => Below w7.heap.size w7 W) (by kernel_rfl) ((Below.refl _ _).drew) (fun hS => ?_)
            generalize w7.drew = wd at *
            refine wpAnyH_ready (rs := [0]) (by kernel_rfl) (by simp) ?_
            refine' AllReadyH.cons ?hoc0n (fun K hK => ?stc0n) AllReadyH.nil
            case hoc0n => (simp only [List.getElem?_toArray, List.getElem?_cons_zero]; rfl)
            go_simp
            refine (aliveD _).mono ?_
            rintro e w8 ⟨rfl, hb⟩
            go_wp2_with fail
            refine hK.out _ _ (hS.trans (hb.mono hS.size)) (fun hHeld => ?_)
            clear hK K
            try simp only [Act.put, List.setIfInBounds_toArray, List.set_cons_succ, List.set_cons_zero]
            clear hS hb
            have hS := hHeld
            clear hHeld
            refine' wpAnyH_take (i := 1) ?h1x1n ?hsx1n ?hfx1n ?hrx1n ?hQx1n (Or.inl ⟨?hwx1n, ?hyx1n⟩) hS ?restx1n
            case h1x1n => (simp only [List.getElem?_toArray, List.getElem?_cons_succ, List.getElem?_cons_zero]; rfl)
            case hsx1n => kernel_rfl
            case hfx1n => kernel_rfl
            case hrx1n => kernel_rfl
            case hQx1n => exact fun _ _ _ h => h
            case hwx1n => rfl
            case hyx1n =>
              intro W hW
              go_simp
              try with_reducible rfl
            simp only [Act.put, List.setIfInBounds_toArray, List.set_cons_succ, List.set_cons_zero]
            refine' wpAnyH_take (i := 2) ?h1x2n ?hsx2n ?hfx2n ?hrx2n ?hQx2n (Or.inl ⟨?hwx2n, ?hyx2n⟩) hS ?restx2n
            case h1x2n => (simp only [List.getElem?_toArray, List.getElem?_cons_succ, List.getElem?_cons_zero]; rfl)
            case hsx2n => kernel_rfl
            case hfx2n => kernel_rfl
            case hrx2n => kernel_rfl
            case hQx2n => exact fun _ _ _ h => h
            case hwx2n => rfl
            case hyx2n =>
              intro W hW
              go_simp
              try with_reducible rfl
            simp only [Act.put, List.setIfInBounds_toArray, List.set_cons_succ, List.set_cons_zero]
            refine' wpAnyH_take (i := 3) ?h1x3n ?hsx3n ?hfx3n ?hrx3n ?hQx3n (Or.inl ⟨?hwx3n, ?hyx3n⟩) hS ?restx3n
            case h1x3n => (simp only [List.getElem?_toArray, List.getElem?_cons_succ, List.getElem?_cons_zero]; rfl)
            case hsx3n => kernel_rfl
            case hfx3n => kernel_rfl
            case hrx3n => kernel_rfl
            case hQx3n => exact fun _ _ _ h => h
            case hwx3n => rfl
            case hyx3n =>
              intro W hW
              go_simp
              try with_reducible rfl
            simp only [Act.put, List.setIfInBounds_toArray, List.set_cons_succ, List.set_cons_zero]
            refine' wpAnyH_take (i := 4) ?h1x4n ?hsx4n ?hfx4n ?hrx4n ?hQx4n (Or.inl ⟨?hwx4n, ?hyx4n⟩) hS ?restx4n
            case h1x4n => (simp only [List.getElem?_toArray, List.getElem?_cons_succ, List.getElem?_cons_zero]; rfl)
            case hsx4n => kernel_rfl
            case hfx4n => kernel_rfl
            case hrx4n => kernel_rfl
            case hQx4n => exact fun _ _ _ h => h
            case hwx4n => rfl
            case hyx4n =>
              intro W hW
              go_simp
              try with_reducible rfl
            simp only [Act.put, List.setIfInBounds_toArray, List.set_cons_succ, List.set_cons_zero]
            refine' wpAnyH_take (i := 5) ?h1x5n ?hsx5n ?hfx5n ?hrx5n ?hQx5n (Or.inl ⟨?hwx5n, ?hyx5n⟩) hS ?restx5n
            case h1x5n => (simp only [List.getElem?_toArray, List.getElem?_cons_succ, List.getElem?_cons_zero]; rfl)
            case hsx5n => kernel_rfl
            case hfx5n => kernel_rfl
            case hrx5n => kernel_rfl
            case hQx5n => exact fun _ _ _ h => h
            case hwx5n => rfl
            case hyx5n =>
              intro W hW
              go_simp
              try with_reducible rfl
            simp only [Act.put, List.setIfInBounds_toArray, List.set_cons_succ, List.set_cons_zero]
            refine' wpAnyH_take (i := 6) ?h1x6n ?hsx6n ?hfx6n ?hrx6n ?hQx6n (yieldsIf_load_mid ?hwx6n 44 (.tmp 12) ?hopx6n r5 0 rfl rg _ (fun W hW => RG.out W ((hW.block _ L5.out).trans G7.out)) Try.underlying44 rfl ?hix6n) hS ?restx6n
            case h1x6n => (simp only [List.getElem?_toArray, List.getElem?_cons_succ, List.getElem?_cons_zero]; rfl)
            case hopx6n => rfl
            case hsx6n => kernel_rfl
            case hfx6n => kernel_rfl
            case hrx6n => kernel_rfl
            case hQx6n => exact fun _ _ _ h => h
            case hwx6n => rfl
            case hix6n => exact HI.out
            simp only [Act.put, List.setIfInBounds_toArray, List.set_cons_succ, List.set_cons_zero]
            refine' wpAnyH_take (i := 7) ?h1x7n ?hsx7n ?hfx7n ?hrx7n ?hQx7n (Or.inl ⟨?hwx7n, ?hyx7n⟩) hS ?restx7n
            case h1x7n => (simp only [List.getElem?_toArray, List.getElem?_cons_succ, List.getElem?_cons_zero]; rfl)
            case hsx7n => kernel_rfl
            case hfx7n => kernel_rfl
            case hrx7n => kernel_rfl
            case hQx7n => exact fun _ _ _ h => h
            case hwx7n => rfl
            case hyx7n =>
              intro W hW
              go_simp
              try with_reducible rfl
            simp only [Act.put, List.setIfInBounds_toArray, List.set_cons_succ, List.set_cons_zero]
            refine' wpAnyH_take (i := 8) ?h1x8n ?hsx8n ?hfx8n ?hrx8n ?hQx8n (Or.inl ⟨?hwx8n, ?hyx8n⟩) hS ?restx8n
            case h1x8n => (simp only [List.getElem?_toArray, List.getElem?_cons_succ, List.getElem?_cons_zero]; rfl)
            case hsx8n => kernel_rfl
            case hfx8n => kernel_rfl
            case hrx8n => kernel_rfl
            case hQx8n => exact fun _ _ _ h => h
            case hwx8n => rfl
            case hyx8n =>
              intro W hW
              go_simp
              try with_reducible rfl
            simp only [Act.put, List.setIfInBounds_toArray, List.set_cons_succ, List.set_cons_zero]
            refine' wpAnyH_take (i := 9) ?h1x9n ?hsx9n ?hfx9n ?hrx9n ?hQx9n (Or.inl ⟨?hwx9n, ?hyx9n⟩) hS ?restx9n
            case h1x9n => (simp only [List.getElem?_toArray, List.getElem?_cons_succ, List.getElem?_cons_zero]; rfl)
            case hsx9n => kernel_rfl
            case hfx9n => kernel_rfl
            case hrx9n => kernel_rfl
            case hQx9n => exact fun _ _ _ h => h
            case hwx9n => rfl
            case hyx9n =>
              intro W hW
              go_simp
              try with_reducible rfl
            simp only [Act.put, List.setIfInBounds_toArray, List.set_cons_succ, List.set_cons_zero]
            refine' wpAnyH_take (i := 10) ?h1x10n ?hsx10n ?hfx10n ?hrx10n ?hQx10n (Or.inl ⟨?hwx10n, ?hyx10n⟩) hS ?restx10n
            case h1x10n => (simp only [List.getElem?_toArray, List.getElem?_cons_succ, List.getElem?_cons_zero]; rfl)
            case hsx10n => kernel_rfl
            case hfx10n => kernel_rfl
            case hrx10n => kernel_rfl
            case hQx10n => exact fun _ _ _ h => h
            case hwx10n => rfl
            case hyx10n =>
              intro W hW
              go_simp
              try with_reducible rfl
            simp only [Act.put, List.setIfInBounds_toArray, List.set_cons_succ, List.set_cons_zero]
            refine' wpAnyH_take (i := 11) ?h1x11n ?hsx11n ?hfx11n ?hrx11n ?hQx11n (Or.inl ⟨?hwx11n, ?hyx11n⟩) hS ?restx11n
            case h1x11n => (simp only [List.getElem?_toArray, List.getElem?_cons_succ, List.getElem?_cons_zero]; rfl)
            case hsx11n => kernel_rfl
            case hfx11n => kernel_rfl
            case hrx11n => kernel_rfl
            case hQx11n => exact fun _ _ _ h => h
            case hwx11n => rfl
            case hyx11n =>
              intro W hW
              go_simp
              try with_reducible rfl
            simp only [Act.put, List.setIfInBounds_toArray, List.set_cons_succ, List.set_cons_zero]
            refine' wpAnyH_take (i := 12) ?h1x12n ?hsx12n ?hfx12n ?hrx12n ?hQx12n (Or.inl ⟨?hwx12n, ?hyx12n⟩) hS ?restx12n
            case h1x12n => (simp only [List.getElem?_toArray, List.getElem?_cons_succ, List.getElem?_cons_zero]; rfl)
            case hsx12n => kernel_rfl
            case hfx12n => kernel_rfl
            case hrx12n => kernel_rfl
            case hQx12n => exact fun _ _ _ h => h
            case hwx12n => rfl
            case hyx12n =>
              intro W hW
              go_simp
              try with_reducible rfl
            simp only [Act.put, List.setIfInBounds_toArray, List.set_cons_succ, List.set_cons_zero]
            refine' wpAnyH_take (i := 13) ?h1x13n ?hsx13n ?hfx13n ?hrx13n ?hQx13n (Or.inl ⟨?hwx13n, ?hyx13n⟩) hS ?restx13n
            case h1x13n => (simp only [List.getElem?_toArray, List.getElem?_cons_succ, List.getElem?_cons_zero]; rfl)
            case hsx13n => kernel_rfl
            case hfx13n => kernel_rfl
            case hrx13n => kernel_rfl
            case hQx13n => exact fun _ _ _ h => h
            case hwx13n => rfl
            case hyx13n =>
              intro W hW
              go_simp
              try with_reducible rfl
            simp only [Act.put, List.setIfInBounds_toArray, List.set_cons_succ, List.set_cons_zero]
            refine' wpAnyH_take (i := 14) ?h1x14n ?hsx14n ?hfx14n ?hrx14n ?hQx14n (Or.inl ⟨?hwx14n, ?hyx14n⟩) hS ?restx14n
            case h1x14n => (simp only [List.getElem?_toArray, List.getElem?_cons_succ, List.getElem?_cons_zero]; rfl)
            case hsx14n => kernel_rfl
            case hfx14n => kernel_rfl
            case hrx14n => kernel_rfl
            case hQx14n => exact fun _ _ _ h => h
            case hwx14n => rfl
            case hyx14n =>
              intro W hW
              go_simp
              try with_reducible rfl
            simp only [Act.put, List.setIfInBounds_toArray, List.set_cons_succ, List.set_cons_zero]
            refine' wpAnyH_take (i := 15) ?h1x15n ?hsx15n ?hfx15n ?hrx15n ?hQx15n (Or.inl ⟨?hwx15n, ?hyx15n⟩) hS ?restx15n
            case h1x15n => (simp only [List.getElem?_toArray, List.getElem?_cons_succ, List.getElem?_cons_zero]; rfl)
            case hsx15n => kernel_rfl
            case hfx15n => kernel_rfl
            case hrx15n => kernel_rfl
            case hQx15n => exact fun _ _ _ h => h
            case hwx15n => rfl
            case hyx15n =>
              intro W hW
              go_simp
              try with_reducible rfl
            simp only [Act.put, List.setIfInBounds_toArray, List.set_cons_succ, List.set_cons_zero]
            refine' wpAnyH_take (i := 16) ?h1x16n ?hsx16n ?hfx16n ?hrx16n ?hQx16n (Or.inl ⟨?hwx16n, ?hyx16n⟩) hS ?restx16n
            case h1x16n => (simp only [List.getElem?_toArray, List.getElem?_cons_succ, List.getElem?_cons_zero]; rfl)
            case hsx16n => kernel_rfl
            case hfx16n => kernel_rfl
            case hrx16n => kernel_rfl
            case hQx16n => exact fun _ _ _ h => h
            case hwx16n => rfl
            case hyx16n =>
              intro W hW
              have tt := ST.out W b7 ((hW.block _ L7.out).trans M1.out)
              go_simp
              try with_reducible rfl
            simp only [Act.put, List.setIfInBounds_toArray, List.set_cons_succ, List.set_cons_zero]
            refine wpAnyH_ready (rs := [17]) (by kernel_rfl) (by simp) ?_
            refine' AllReadyH.cons ?hoc17n (fun K hK => ?stc17n) AllReadyH.nil
            case hoc17n => (simp only [List.getElem?_toArray, List.getElem?_cons_succ, List.getElem?_cons_zero]; rfl)
            go_simp
            refine (fullAny 0 0 512 (.inr ⟨by omega, rfl⟩) _).mono ?_
            rintro e w9 ⟨b9, rfl, m9, _, hb⟩
            go_wp2_with fail
            refine hK.out _ _ (hS.trans (hb.mono hS.size)) (fun hHeld => ?_)
            clear hK K
            try simp only [Act.put, List.setIfInBounds_toArray, List.set_cons_succ, List.set_cons_zero]
            have t9 := ST.out _ b9 m9
            clear m9
            clear hS hb
            have hS := hHeld
            clear hHeld
            refine wpAnyH_ready (rs := [18]) (by kernel_rfl) (by simp) ?_
            refine' AllReadyH.cons ?hoc18n (fun K hK => ?stc18n) AllReadyH.nil
            case hoc18n => (simp only [List.getElem?_toArray, List.getElem?_cons_succ, List.getElem?_cons_zero]; rfl)
            go_simp
            refine hK.out _ _ hS (fun hHeld => ?_)
            clear hK K hHeld t9
            try simp only [Act.put, List.setIfInBounds_toArray, List.set_cons_succ, List.set_cons_zero]
            refine' wpAnyH_take (i := 19) ?h1x19n ?hsx19n ?hfx19n ?hrx19n ?hQx19n (Or.inl ⟨?hwx19n, ?hyx19n⟩) hS ?restx19n
            case h1x19n => (simp only [List.getElem?_toArray, List.getElem?_cons_succ, List.getElem?_cons_zero]; rfl)
            case hsx19n => kernel_rfl
            case hfx19n => kernel_rfl
            case hrx19n => kernel_rfl
            case hQx19n => exact fun _ _ _ h => h
            case hwx19n => rfl
            case hyx19n =>
              intro W hW
              go_simp
              try with_reducible rfl
            simp only [Act.put, List.setIfInBounds_toArray, List.set_cons_succ, List.set_cons_zero]
            refine' wpAnyH_take (i := 20) ?h1x20n ?hsx20n ?hfx20n ?hrx20n ?hQx20n (Or.inl ⟨?hwx20n, ?hyx20n⟩) hS ?restx20n
            case h1x20n => (simp only [List.getElem?_toArray, List.getElem?_cons_succ, List.getElem?_cons_zero]; rfl)
            case hsx20n => kernel_rfl
            case hfx20n => kernel_rfl
            case hrx20n => kernel_rfl
            case hQx20n => exact fun _ _ _ h => h
            case hwx20n => rfl
            case hyx20n =>
              intro W hW
              go_simp
              try with_reducible rfl
            simp only [Act.put, List.setIfInBounds_toArray, List.set_cons_succ, List.set_cons_zero]
            refine' wpAnyH_take (i := 21) ?h1x21n ?hsx21n ?hfx21n ?hrx21n ?hQx21n (Or.inl ⟨?hwx21n, ?hyx21n⟩) hS ?restx21n
            case h1x21n => (simp only [List.getElem?_toArray, List.getElem?_cons_succ, List.getElem?_cons_zero]; rfl)
            case hsx21n => kernel_rfl
            case hfx21n => kernel_rfl
            case hrx21n => kernel_rfl
            case hQx21n => exact fun _ _ _ h => h
            case hwx21n => rfl
            case hyx21n =>
              intro W hW
              go_simp
              try with_reducible rfl
            simp only [Act.put, List.setIfInBounds_toArray, List.set_cons_succ, List.set_cons_zero]
            refine' wpAnyH_take (i := 22) ?h1x22n ?hsx22n ?hfx22n ?hrx22n ?hQx22n (Or.inl ⟨?hwx22n, ?hyx22n⟩) hS ?restx22n
            case h1x22n => (simp only [List.getElem?_toArray, List.getElem?_cons_succ, List.getElem?_cons_zero]; rfl)
            case hsx22n => kernel_rfl
            case hfx22n => kernel_rfl
            case hrx22n => kernel_rfl
            case hQx22n => exact fun _ _ _ h => h
            case hwx22n => rfl
            case hyx22n =>
              intro W hW
              go_simp
              try with_reducible rfl
            simp only [Act.put, List.setIfInBounds_toArray, List.set_cons_succ, List.set_cons_zero]
            refine wpAnyH_ready (rs := [23]) (by kernel_rfl) (by simp) ?_
            refine' AllReadyH.cons ?hoc23n (fun K hK => ?stc23n) AllReadyH.nil
            case hoc23n => (simp only [List.getElem?_toArray, List.getElem?_cons_succ, List.getElem?_cons_zero]; rfl)
            go_simp
            refine (downD (S7.out.below hS).dk).mono ?_
            rintro e w' ⟨rfl, rfl⟩
            go_wp2_with fail
            refine hK.out _ _ hS (fun hHeld => ?_)
            clear hK K hHeld
            try simp only [Act.put, List.setIfInBounds_toArray, List.set_cons_succ, List.set_cons_zero]
            refine' wpAnyH_take (i := 24) ?h1x24n ?hsx24n ?hfx24n ?hrx24n ?hQx24n (Or.inl ⟨?hwx24n, ?hyx24n⟩) hS ?restx24n
            case h1x24n => (simp only [List.getElem?_toArray, List.getElem?_cons_succ, List.getElem?_cons_zero]; rfl)
            case hsx24n => kernel_rfl
            case hfx24n => kernel_rfl
            case hrx24n => kernel_rfl
            case hQx24n => exact fun _ _ _ h => h
            case hwx24n => rfl
            case hyx24n =>
              intro W hW
              go_simp
              try with_reducible rfl
            simp only [Act.put, List.setIfInBounds_toArray, List.set_cons_succ, List.set_cons_zero]
            refine' wpAnyH_take (i := 25) ?h1x25n ?hsx25n ?hfx25n ?hrx25n ?hQx25n (Or.inl ⟨?hwx25n, ?hyx25n⟩) hS ?restx25n
            case h1x25n => (simp only [List.getElem?_toArray, List.getElem?_cons_succ, List.getElem?_cons_zero]; rfl)
            case hsx25n => kernel_rfl
            case hfx25n => kernel_rfl
            case hrx25n => kernel_rfl
            case hQx25n => exact fun _ _ _ h => h
            case hwx25n => rfl
            case hyx25n =>
              intro W hW
              go_simp
              try with_reducible rfl
            simp only [Act.put, List.setIfInBounds_toArray, List.set_cons_succ, List.set_cons_zero]
            refine' wpAnyH_take (i := 26) ?h1x26n ?hsx26n ?hfx26n ?hrx26n ?hQx26n (Or.inl ⟨?hwx26n, ?hyx26n⟩) hS ?restx26n
            case h1x26n => (simp only [List.getElem?_toArray, List.getElem?_cons_succ, List.getElem?_cons_zero]; rfl)
            case hsx26n => kernel_rfl
            case hfx26n => kernel_rfl
            case hrx26n => kernel_rfl
            case hQx26n => exact fun _ _ _ h => h
            case hwx26n => rfl
            case hyx26n =>
              intro W hW
              go_simp
              try with_reducible rfl
            simp only [Act.put, List.setIfInBounds_toArray, List.set_cons_succ, List.set_cons_zero]
            refine wpAnyH_done (by kernel_rfl) ?_ _
            go_wp2_with fail
            go_ret
            exact ⟨rfl, (S7.out.below hS).b⟩
set_option maxRecDepth 100000 in
theorem open_os {H : Type} {enc : TypeId × Value → H} {w : World} {r : Reach} {b0 base : Nat} {v : Value} {d : DataW H} {ps : List MemPlace}
    (hval : Value.okWide Try.prog w r b0 22 v) (hd : DataW.Trod enc Try.prog w base (fun _ => true) true 22 v d ps) : ∃ (x : Option Addr) (l c : Nat), v = .slice x l c ∧ OS w x l := by
  obtain ⟨fuel, hf⟩ := hd
  obtain ⟨x', l', k', rfl⟩ := okWide_slice Try.underlying22 hval
  refine ⟨x', l', k', rfl, ?_⟩
  rcases Go.Deep.open_slice Try.underlying22 hf with ⟨hc, _⟩ | ⟨a, len, cap, m, n, D, Pl, hc, _, hl, hm, hmm, hx, hi⟩
  · simp [Value.cells] at hc
    obtain ⟨rfl, rfl, rfl⟩ := hc
    exact ⟨Nat.zero_le _, fun i h => by omega⟩
  · simp [Value.cells] at hc
    obtain ⟨rfl, rfl, rfl⟩ := hc
    rw [if_pos rfl] at hmm
    refine ⟨by omega, fun i hil => ?_⟩
    obtain ⟨cs', h1, h2⟩ := hi i (by omega)
    rw [cells34] at h1
    obtain ⟨k, s, y, n', x, l, c, rfl, hs, hy, _, _⟩ := op_cells h2
    obtain ⟨_, hcl, hat⟩ := World.cells?_some h1
    have g : ∀ (j : Nat) (u : Value), j < 5 → ([.int .i64 k, .int .u32 s, .int .u8 y, .int .i64 n', .slice x l c] : List Value)[j]? = some u → w.cell? (a.add (i * 5 + j)) = some u := fun j u hj hu => by
      have h6 := hat j hj
      rw [hu] at h6
      rw [← Go.Deep.add_add, h6]
    have g0 := g 0 _ (by omega) rfl
    have g1 := g 1 _ (by omega) rfl
    have g2 := g 2 _ (by omega) rfl
    have g3 := g 3 _ (by omega) rfl
    have g4 := g 4 _ (by omega) rfl
    obtain ⟨cs0, p1, p2⟩ := hi 0 (by omega)
    rw [cells34] at p1
    obtain ⟨_, _, _, _, _, _, _, rfl, _, _, _, _⟩ := op_cells p2
    obtain ⟨_, _, hat0⟩ := World.cells?_some p1
    have q0 := hat0 0 (by omega)
    rw [Go.Deep.add_add] at q0
    obtain ⟨b, o, spot⟩ := a
    have hspot : spot = none := by simpa [Addr.add] using World.cell?_spot q0
    subst hspot
    rw [addr_add, ← Nat.add_assoc] at g0 g1 g2 g3 g4
    exact ⟨k, s, y, n', x, l, c, b, o, rfl, World.block_lt_of_cell? w _ g0, hs, hy, g0, g1, g2, g3, g4⟩

set_option maxRecDepth 100000 in
theorem lifted (os : Os) (started : os.Started) (H : Type) (enc : TypeId × Value → H) :
    ReturnsInHanded {} Try.checked os 7 .any (Rows.diskDownSpec.pre6 enc Try.prog Try.f7 Rows.diskDownRow.domain false) (Rows.diskDownSpec.post enc Try.prog Try.f7 false true false false) := by
  refine returnsInHanded_of_change (C := Try.checked) own started (by kernel_rfl) Try.func7
    (ChangeSpec.witness6 (enc := enc) (C := Try.checked) false ⟨#[], #[.int .u8 0, .slice none 0 0], []⟩ 8 (by kernel_rfl) (by kernel_rfl) (by kernel_rfl) (by kernel_rfl)) ?_
  intro W base args ds gs before hval0 hW hcnd _
  have hval : ∀ (j : Nat) t v, Try.f7.params[j]? = some t → args[j]? = some v → Value.okWide Try.prog W .any base t v := hval0
  have hW' := hW
  obtain ⟨p, q, hA0, hV, rfl, hfz, hnd⟩ := hW
  have hA : DataW.TrodAll enc Try.prog W 0 (fun _ => true) true Try.f7.params.toList args.toList ds p := hA0
  rw [Try.params7] at hA hval
  obtain ⟨v0, vs0, d0, ds0, p0, q0, hargs, rfl, rfl, h0, r0⟩ := trodAll_cons hA
  obtain ⟨v1, vs1, d1, ds1, p1, q1, rfl, rfl, rfl, h1, r1⟩ := trodAll_cons r0
  obtain ⟨rfl, rfl, rfl⟩ := trodAll_nil r1
  obtain rfl : args = #[v0, v1] := by cases args; simp_all
  obtain ⟨rfl, rfl⟩ := trodVars_none hV
  obtain ⟨a0, rfl, rfl, rfl, w0⟩ := open_int Try.underlying5 (hval 0 5 v0 rfl rfl) h0
  have b0 := bounds_u8 w0
  obtain ⟨m0, rfl⟩ : ∃ m0 : Nat, a0 = m0 := ⟨a0.toNat, by omega⟩
  obtain ⟨x1, l1, c1, rfl, s1⟩ := open_os (hval 1 22 v1 rfl rfl) h1
  refine (walk m0 (by omega) x1 l1 c1 W s1).mono fun e W' ⟨he, hb⟩ => ?_
  subst he
  exact ⟨_, rfl, law_post hW' rfl rfl rfl (by kernel_rfl) hb⟩

/-- The statement. -/
theorem proved : Rows.DiskDownSaid :=
  OpenClaim.holds_of_wide 7 Try.f7 rfl rfl rfl rfl rfl rfl rfl ⟨rfl, rfl, rfl, rfl, rfl⟩ rfl rfl rfl rfl rfl (by kernel_rfl) Try.func7 (by kernel_rfl)
    (of_decide_eq_true (by kernel_rfl)) (by unfold Func.isWrapper; first | (rw [if_pos (by decide +kernel)]; kernel_rfl) | (rw [if_neg (by decide +kernel)]; exact ⟨rfl, rfl⟩))
    (fun os started H enc _ => lifted os started H enc)
#print axioms proved
end Go.Proofs.Ytklhnibmpdaioaa.diskDown
