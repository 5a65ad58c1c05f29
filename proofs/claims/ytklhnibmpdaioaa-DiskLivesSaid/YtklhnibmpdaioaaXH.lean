/-
  Contract of the document's disk: Crash. Condition: it lies in memory, and the bytes of the keep.
-/
import Derived.Test.YtklhnibmpdaioaaXG
namespace Go.Proofs.Ytklhnibmpdaioaa
open Go.RowKit
theorem crL_app (kp : Nat → Bool) (s y : Nat) (b : Bool) : ∀ (n : Nat) (L : List (Nat × Nat × Bool)), crL kp n (L ++ [(s, y, b)]) = crL kp n L ++ (if b = true then [(s, y, true)] else if kp (n + (unS L).length) = true then [(s, y, true)] else [])
  | n, [] => rfl
  | n, (a, z, true) :: r => by
    show (a, z, true) :: crL kp n (r ++ [(s, y, b)]) = ((a, z, true) :: crL kp n r) ++ _
    rw [crL_app kp s y b n r]; rfl
  | n, (a, z, false) :: r => by
    have e : n + (unS ((a, z, false) :: r)).length = n + 1 + (unS r).length := by
      show n + ((a, z) :: unS r).length = _
      rw [List.length_cons]; omega
    rw [e]
    show (if kp n = true then (a, z, true) :: crL kp (n + 1) (r ++ [(s, y, b)]) else crL kp (n + 1) (r ++ [(s, y, b)])) = (if kp n = true then (a, z, true) :: crL kp (n + 1) r else crL kp (n + 1) r) ++ _
    rw [crL_app kp s y b (n + 1) r]
    by_cases hk : kp n = true
    · rw [if_pos hk, if_pos hk]; rfl
    · rw [if_neg hk, if_neg hk]
theorem crL_len (kp : Nat → Bool) : ∀ (n : Nat) (L : List (Nat × Nat × Bool)), (crL kp n L).length ≤ L.length
  | _, [] => Nat.le_refl _
  | n, (a, z, true) :: r => Nat.succ_le_succ (crL_len kp n r)
  | n, (a, z, false) :: r => by
    show (if kp n = true then (a, z, true) :: crL kp (n + 1) r else crL kp (n + 1) r).length ≤ r.length + 1
    have := crL_len kp (n + 1) r
    split
    · simp only [List.length_cons]; omega
    · omega
theorem crL_take {kp : Nat → Bool} {L : List (Nat × Nat × Bool)} {i s y : Nat} {b : Bool} (h : L[i]? = some (s, y, b)) : crL kp 0 (L.take (i + 1)) = crL kp 0 (L.take i) ++ (if b = true then [(s, y, true)] else if kp (unS (L.take i)).length = true then [(s, y, true)] else []) := by
  obtain ⟨h1, h2⟩ := List.getElem?_eq_some_iff.1 h
  rw [List.take_succ_eq_append_getElem h1, h2, crL_app, Nat.zero_add]
/-- A row of writes of one's own. -/
def XR (w0 w : World) (lv : Value) (L : List (Nat × Nat × Bool)) : Prop := (∃ vs, Rw w 92 3 lv L.length vs ∧ XS w L vs) ∧ ∀ j, lv.ownBlock = some j → w0.heap.size ≤ j
section
variable {w w' : World} {q N rb : Nat} {lv v : Value} {L : List (Nat × Nat × Bool)} {rg : List Value} {c p : Int} {d : Bool}
theorem XR.below {w0 : World} (h : XR w0 w lv L) (b : Below w.heap.size w w') : XR w0 w' lv L := by
  obtain ⟨⟨vs, h1, h2⟩, h3⟩ := h
  have m := Mods.of_below b (S := fun _ => False)
  exact ⟨⟨vs, h1.mods m (fun _ _ => id), h2.mods m (fun _ _ _ => id)⟩, h3⟩
theorem XR.push {w0 : World} (h : XR w0 w lv L) (hb : w0.heap.size ≤ w.heap.size) {s y : Nat} {b : Bool} (hv : TY w v (tx y)) (hs : s < 65536) (hy : y < 256) (hL : L.length ≤ 1000000) :
    ∃ lv' w', (Builtin.append_ #[38, 38] 38 #[lv, .slice (some ⟨w.heap.size, 0, none⟩) 1 1]).run Try.prog (w.alloc (.cells #[.int .u32 s, v, .bool b] 92)) = .ok lv' w' ∧ XR w0 w' lv' (L ++ [(s, y, b)]) ∧ Below w0.heap.size w w' := by
  obtain ⟨⟨vs, h1, h2⟩, h3⟩ := h
  obtain ⟨x', k', w', run, rows, m, an⟩ := pushX (b := b) h1 h2 hv hs hy hL
  refine ⟨_, w', run, ⟨rows, fun j hj => (an j hj).elim (h3 j) (fun h => Nat.le_trans hb h)⟩, ⟨m.os, m.tape, m.output, m.size, fun k hk => m.block k (by omega) (fun e => by have := h3 k e; omega)⟩⟩
set_option maxRecDepth 100000 in
set_option maxHeartbeats 2000000 in
theorem crashX (h : XD w q N lv L rb rg c p d) (hL : L.length ≤ 1000000) (x : Option Addr) (n k : Nat) (f : Nat → Int) (hn : n ≤ 9223372036854775807)
    (hx : ∀ j, j < n → 0 ≤ f j ∧ f j ≤ 255 ∧ ∃ b o, x = some ⟨b, o, none⟩ ∧ b < w.heap.size ∧ w.cell? ⟨b, o + j, none⟩ = some (.int .u8 (f j))) :
    Calls Try.prog 55 #[.pointer (some ⟨q, 0, none⟩), .slice x n k] w fun e w' => ∃ lv', e = .returned (.tuple #[]) ∧ XD w' q N lv' (crL (kbit f n) 0 L) rb rg c (-1) false ∧ Mods (Xt q lv) w w' ∧ ∀ j, lv'.ownBlock = some j → lv.ownBlock = some j ∨ w.heap.size ≤ j := by
  obtain ⟨x0, lk, rfl, hk1, hk2⟩ := h.form
  have H := Lib.hid h
  have c1 := h.c1
  have hl2 : (L.length : Int) ≤ 1000000 := by omega
  have HL := Lib.hid hL
  have DG : Hid (∀ W, Below w.heap.size w W → ∀ i : Nat, i ≤ 1000000 → Calls Try.prog 76 #[.slice x n k, .int .i64 i] W fun e w' => e = .returned (.bool (kbit f n i)) ∧ W = w') := fun W hW i hi => digitX i hi x n k f W hn (fun j hj => by
    obtain ⟨p0, p1, b, o, e, hbl, hcell⟩ := hx j hj
    exact ⟨p0, p1, b, o, e, (hW.cell (p := ⟨b, o + j, none⟩) hbl).trans hcell⟩)
  have HE : Hid (L.take L.length = L) := List.take_length
  have R0 : Hid (XR w w (.slice none 0 0) []) := ⟨⟨[], Rw.nil _ _ _, rfl⟩, fun j hj => by simp [Value.ownBlock] at hj⟩
  generalize kbit f n = kp at *
  clear h hx hk1 hk2 hL
  go_enter Try.func55, Try.ntmps55
  go_wp2_with fail
  go_loopg [4, 5, 6, 7] L.length (fun r v4 v5 v6 _ wr => ∃ i : Nat, r + i = L.length ∧ v5 = .int .i64 (unS (L.take i)).length ∧ v6 = .int .i64 i ∧ XR w wr v4 (crL kp 0 (L.take i)) ∧ Below w.heap.size w wr)
  case atStart => exact ⟨0, by omega, rfl, rfl, R0.out, Below.refl _ _⟩
  case round =>
    obtain ⟨i, hr, rfl, rfl, hxr, hb⟩ := hrel
    obtain ⟨lx, ln, lc, rfl⟩ : ∃ lx ln lc, u4 = .slice lx ln lc := by obtain ⟨⟨vs, h1, _⟩, _⟩ := hxr; obtain ⟨_, _, h, _⟩ := h1.form; exact ⟨_, _, _, h⟩
    have HR := Lib.hid hr
    have XR0 := Lib.hid hxr
    have HB := Lib.hid hb
    have HX := Lib.hid (H.out.below hb)
    have cc := HX.out.c1
    by_cases hi : i < L.length
    · obtain ⟨s, y, b, he⟩ : ∃ s y b, L[i]? = some (s, y, b) := ⟨_, _, _, List.getElem?_eq_getElem hi⟩
      obtain ⟨g, o, vv, rfl, d0, d1, d2, _, tv, hs, hy⟩ := HX.out.at he
      have UT := Lib.hid (unS_take he)
      have CT := Lib.hid (crL_take (kp := kp) he)
      have CL : Hid ((crL kp 0 (L.take i)).length ≤ 1000000) := by
        have h1 := crL_len kp 0 (L.take i)
        have h2 : (L.take i).length ≤ i := by rw [List.length_take]; omega
        show _ ≤ _; have := HL.out; omega
      have hle := unS_le (L.take i)
      have hle2 : (L.take i).length ≤ i := by rw [List.length_take]; omega
      have hi2 : (i : Int) < L.length := by omega
      obtain ⟨vx, vn, vk, rfl⟩ : ∃ vx vn vk, vv = .slice vx vn vk := by obtain ⟨_, _, _, rfl, _⟩ := tv; exact ⟨_, _, _, rfl⟩
      have TV := Lib.hid tv
      have SY : Hid (s < 65536 ∧ y < 256) := ⟨hs, hy⟩
      have hi3 : i < 1000000 := by have := HL.out; omega
      clear hr he hxr hb c1 tv hs hy
      generalize hz : (unS (L.take i)).length = z at *
      clear hz
      generalize crL kp 0 (L.take i) = C at *
      obtain ⟨W, hW⟩ : ∃ W : Bool → World, W = fun t => wr.alloc (.cells #[.int .u32 s, .slice vx vn vk, .bool t] 92) := ⟨_, rfl⟩
      have hWs : ∀ t, (W t).heap.size = wr.heap.size + 1 := fun t => by rw [hW]; simp
      have hWb : ∀ t, Below wr.heap.size wr (W t) := fun t => by rw [hW]; exact (Below.refl _ _).alloc (Nat.le_refl _) _
      have PU : Hid (∀ t, ∃ lv' w', (Builtin.append_ #[38, 38] 38 #[.slice lx ln lc, .slice (some ⟨wr.heap.size + 1, 0, none⟩) 1 1]).run Try.prog ((W t).alloc (.cells #[.int .u32 s, .slice vx vn vk, .bool true] 92)) = .ok lv' w' ∧ XR w w' lv' (C ++ [(s, y, true)]) ∧ Below w.heap.size w w') := fun t => by
        obtain ⟨lv', w', h1, h2, h3⟩ := (XR0.out.below (hWb t)).push (b := true) (Nat.le_trans HB.out.size (hWb t).size) (TV.out.mods (Mods.of_below (hWb t) (S := fun _ => False)) (fun _ _ _ => id)) SY.out.1 SY.out.2 CL.out
        rw [hWs t] at h1
        exact ⟨lv', w', h1, h2, (HB.out.trans ((hWb t).mono HB.out.size)).trans h3⟩
      have DZ : Hid (Calls Try.prog 76 #[.slice x n k, .int .i64 z] (W false) fun e w' => e = .returned (.bool (kp z)) ∧ W false = w') := DG.out (W false) (HB.out.trans ((hWb false).mono HB.out.size)) z (by omega)
      have HN : Hid (XR w (W false) (.slice lx ln lc) C ∧ Below w.heap.size w (W false)) := ⟨XR0.out.below (hWb false), HB.out.trans ((hWb false).mono HB.out.size)⟩
      simp only [hW] at PU DZ HN
      clear hW hWs hWb W
      cases b with
      | true =>
        simp only [if_true, Nat.add_zero] at UT CT
        obtain ⟨lv', w2, run, r1, b1⟩ := PU.out true
        have RUN := Lib.hid run
        have R1 := Lib.hid r1
        have B1 := Lib.hid b1
        clear run r1 b1 PU DZ HN XR0
        go_wp2_with (at_builtin; refine wpList_appX rfl (.tmp 35) (.tmp 37) rfl rfl rfl rfl RUN.out ?_)
        go_roundg (L.length - (i + 1))
        case measure => have := HR.out; omega
        case rel => exact ⟨i + 1, by have := HR.out; omega, by rw [UT.out], by go_num, by rw [CT.out]; exact R1.out, B1.out⟩
      | false =>
        have UT2 : Hid ((unS (L.take (i + 1))).length = z + 1) := by show _ = _; have := UT.out; simpa using this
        simp only [Bool.false_eq_true, if_false] at CT
        by_cases hk : kp z = true
        · rw [hk] at DZ
          rw [if_pos hk] at CT
          obtain ⟨lv', w2, run, r1, b1⟩ := PU.out true
          have RUN := Lib.hid run
          have R1 := Lib.hid r1
          have B1 := Lib.hid b1
          clear run r1 b1 PU HN XR0 UT
          go_wp2_with (first | (go_at_call 76; refine DZ.out.mono ?_; rintro e w' ⟨rfl, rfl⟩) | (at_builtin; refine wpList_appX rfl (.tmp 35) (.tmp 37) rfl rfl rfl rfl RUN.out ?_))
          go_roundg (L.length - (i + 1))
          case measure => have := HR.out; omega
          case rel => exact ⟨i + 1, by have := HR.out; omega, by rw [UT2.out]; go_num, by go_num, by rw [CT.out]; exact R1.out, B1.out⟩
        · have hk2 : kp z = false := by simpa using hk
          rw [hk2] at DZ
          rw [if_neg hk, List.append_nil] at CT
          clear PU XR0 UT
          go_wp2_with (go_at_call 76; refine DZ.out.mono ?_; rintro e w' ⟨rfl, rfl⟩)
          go_roundg (L.length - (i + 1))
          case measure => have := HR.out; omega
          case rel => exact ⟨i + 1, by have := HR.out; omega, by rw [UT2.out]; go_num, by go_num, by rw [CT.out]; exact HN.out.1, HN.out.2⟩
    · have hz : i = L.length := by omega
      subst hz
      rw [HE.out] at XR0
      have HF : Hid (XD (((wr.setCell ⟨q, 1, none⟩ (.slice lx ln lc)).setCell ⟨q, 4, none⟩ (.int .i64 (-1))).setCell ⟨q, 5, none⟩ (.bool false)) q N (.slice lx ln lc) (crL kp 0 L) rb rg c (-1) false ∧ Mods (Xt q (.slice x0 L.length lk)) w (((wr.setCell ⟨q, 1, none⟩ (.slice lx ln lc)).setCell ⟨q, 4, none⟩ (.int .i64 (-1))).setCell ⟨q, 5, none⟩ (.bool false)) ∧ ∀ j, (Value.slice lx ln lc).ownBlock = some j → w.heap.size ≤ j) := by
        obtain ⟨h1, h2⟩ := HX.out.row_set XR0.out.1
        have hm : Mods (fun k => k = q) (wr.setCell ⟨q, 1, none⟩ (.slice lx ln lc)) (((wr.setCell ⟨q, 1, none⟩ (.slice lx ln lc)).setCell ⟨q, 4, none⟩ (.int .i64 (-1))).setCell ⟨q, 5, none⟩ (.bool false)) := (Mods.set (S := fun k => k = q) _ _ _ rfl).trans (Mods.set (S := fun k => k = q) _ _ _ rfl) (fun _ h => .inl h)
        refine ⟨h1.reset (heap_set (heap_set h1.row _ _) _ _) hm, ((Mods.of_below HB.out (S := Xt q _)).trans h2 (fun j hj => .inl (.inl hj))).trans hm (fun j hj => .inl (.inl hj)), XR0.out.2⟩
      have f1 := HX.out.fz 1
      have f4 := HX.out.fz 4
      have f5 := HX.out.fz 5
      have e4 := HX.out.c4
      have e5 := HX.out.c5
      clear hr HR hi hxr hb XR0
      go_wp2_with fail
      go_end0
      exact ⟨_, rfl, HF.out.1, HF.out.2.1, fun j hj => .inr (HF.out.2.2 j hj)⟩
end
end Go.Proofs.Ytklhnibmpdaioaa
