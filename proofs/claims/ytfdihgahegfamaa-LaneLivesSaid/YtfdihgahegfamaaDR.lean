/-
  Contracts of Len and Drain of the program's lanes, and of the fourth op at both. Condition: both lie in memory, and have the same lists.
-/
import Derived.Test.YtfdihgahegfamaaX
namespace Go.Proofs.Ytfdihgahegfamaa
open Go.RowKit Go.Conc
/-- A lane while it is drained. -/
structure Dr (w wr : World) (g ga c0 n size k : Nat) (Q : List (List Value)) (vo : Value) (ins rest : List Int) : Prop where
  ln : LN 113 111 3 wr g ga c0 n size (Q.set k (rest.map (Value.int .i64)))
  rw' : Rw wr 3 1 vo ins.length (ins.map (Value.int .i64))
  ow : ∀ j, vo.ownBlock = some j → w.heap.size ≤ j ∧ ¬ BX wr c0 n j
  bx : ∀ q, BX wr c0 n q → BX w c0 n q ∨ w.heap.size ≤ q
  md : Mods (CS c0 n) w wr
  n1 : 1 ≤ n
section
variable {w wr w' : World} {g ga c0 n size k : Nat} {Q : List (List Value)} {vo : Value} {ins rest : List Int}
theorem Dr.off (h : Dr w wr g ga c0 n size k Q vo ins rest) {j : Nat} (hj : vo.ownBlock = some j) : ¬ CS c0 n j := fun hc => by
  obtain ⟨_, _, _, _, _, _, h2⟩ := h.ln.cs hc
  obtain ⟨cs, h3⟩ := own3 h.rw' hj
  rw [h2] at h3; cases h3
theorem Dr.below (h : Dr w wr g ga c0 n size k Q vo ins rest) (hb : Below wr.heap.size wr w') : Dr w w' g ga c0 n size k Q vo ins rest :=
  have hx : ∀ q, BX w' c0 n q → BX wr c0 n q := fun q hq => bx_mods (S := fun _ => False) (Mods.of_below hb) (fun _ _ => id) (h.ln.top h.n1) q hq
  ⟨h.ln.below hb, h.rw'.mods (S := fun _ => False) (Mods.of_below hb) (fun _ _ => id), fun j hj => ⟨(h.ow j hj).1, fun hq => (h.ow j hj).2 (hx j hq)⟩, fun q hq => h.bx q (hx q hq), h.md.trans (Mods.of_below (S := fun _ => False) hb) (fun _ hb => hb.elim), h.n1⟩
theorem Dr.push (h : Dr w wr g ga c0 n size k Q vo ins rest) (x : Int) (hn : ins.length + 1 ≤ 1000000) :
    ∃ y c w1, (Builtin.append_ #[29, 29] 29 #[vo, .slice (some ⟨wr.heap.size, 0, none⟩) 1 1]).run Try.prog (wr.alloc (.cells #[.int .i64 x] 3)) = .ok (.slice y (ins.length + 1) c) w1 ∧ Dr w w1 g ga c0 n size k Q (.slice y (ins.length + 1) c) (ins ++ [x]) rest := by
  obtain ⟨y, c, w1, hrun, r1, r2, r3⟩ := h.rw'.pushI x hn
  have ty : ∀ {k t : Nat} {cs : Array Value}, wr.heap[k]? = some (.cells cs t (0, 0)) → t ≠ 3 → ¬ vo.ownBlock = some k := fun hk ht e => h.rw'.ty hk (fun e2 => ht e2.symm) e
  have hcs : ∀ i, i < n → ¬ vo.ownBlock = some (c0 + i) := fun i hi e => h.off e ⟨by omega, by omega⟩
  have hx : ∀ q, BX w1 c0 n q → BX wr c0 n q := fun q hq => bx_mods r2 hcs (h.ln.top h.n1) q hq
  refine ⟨y, c, w1, hrun, h.ln.mods r2 (ty h.ln.hs (by decide)) (ty h.ln.ha (by decide)) hcs (fun q hb e => (h.ow q e).2 hb), r1, fun j hj => ?_, fun q hq => h.bx q (hx q hq), h.md.trans r2 (fun b hb => .inr (h.ow b hb).1), h.n1⟩
  rcases r3 j hj with h1 | h1
  · exact ⟨(h.ow j h1).1, fun hq => (h.ow j h1).2 (hx j hq)⟩
  · refine ⟨by have := h.md.size; omega, fun hq => ?_⟩
    obtain ⟨z, hz⟩ := h.ln.bxt (hx j hq)
    have := (Array.getElem?_eq_some_iff.1 hz).1; omega
theorem Dr.turn (h : Dr w wr g ga c0 n size k Q vo ins rest) {rest' : List Int} (hl : LN 113 111 3 w' g ga c0 n size ((Q.set k (rest.map (Value.int .i64))).set k (rest'.map (Value.int .i64)))) (hm : Mods (CS c0 n) wr w') (hbx : ∀ q, BX w' c0 n q → BX wr c0 n q ∨ wr.heap.size ≤ q) : Dr w w' g ga c0 n size k Q vo ins rest' :=
  ⟨by rw [List.set_set] at hl; exact hl, h.rw'.mods hm (fun _ hj => h.off hj), fun j hj => ⟨(h.ow j hj).1, fun hq => by
    rcases hbx j hq with h1 | h1
    · exact (h.ow j hj).2 h1
    · have := h.rw'.lt j hj; omega⟩, fun q hq => by
    rcases hbx q hq with h1 | h1
    · exact h.bx q h1
    · have := h.md.size; exact .inr (by omega), h.md.trans hm (fun _ hb => .inl hb), h.n1⟩
end
theorem lenC {w : World} {g ga c0 n size : Nat} {Q : List (List Value)} (h : LN 113 111 3 w g ga c0 n size Q) (k : Nat) (l : List Value) (hk : Q[k]? = some l) : Calls Try.prog 43 #[.pointer (some ⟨g, 0, none⟩), .int .i64 k] w fun e w' => e = .returned (.int .i64 l.length) ∧ w = w' := by
  have hkn : k < n := by have := (List.getElem?_eq_some_iff.1 hk).1; have := h.hl; omega
  obtain ⟨buf, s, r, hb1, hb2, hb3, hb4⟩ := h.hc k l hk
  have H := Lib.hid h
  have hl : ∀ (ty : Nat), (Builtin.len_ #[111] ty #[.chan (some (c0 + k))]).run Try.prog w = .ok (.int .i64 l.length) w := fun ty => by
    simp [Builtin.len_, run_getObj_chan _ _ hb1, Result.andThen, hb2, goInt]
  clear h hk hb1 hb2 hb3 hb4
  go_enter Try.func43, Try.ntmps43
  go_wp2_with (go_at_call 78; refine (atL H.out k hkn).mono ?_; rintro e w' ⟨rfl, rfl⟩)
  go_ret
  exact ⟨rfl, rfl⟩
theorem lenC_no {w : World} {g ga c0 n size : Nat} {Q : List (List Value)} (h : LN 113 111 3 w g ga c0 n size Q) (i : Int) (hi : ¬ (0 ≤ i ∧ i < n)) : Calls Try.prog 43 #[.pointer (some ⟨g, 0, none⟩), .int .i64 i] w fun e w' => e = .returned (.int .i64 0) ∧ w = w' := by
  have H := Lib.hid h
  have HI := Lib.hid hi
  have hl : ∀ (W : World) (ty : Nat), (Builtin.len_ #[111] ty #[.chan none]).run Try.prog W = .ok (.int .i64 0) W := fun W ty => by kernel_rfl
  clear h hi
  go_enter Try.func43, Try.ntmps43
  go_wp2_with (go_at_call 78; refine (atL_no H.out i HI.out).mono ?_; rintro e w' ⟨rfl, rfl⟩)
  go_ret
  exact ⟨rfl, rfl⟩
theorem drain_no {w : World} {g ga c0 n size : Nat} {Q : List (List Value)} (h : LN 113 111 3 w g ga c0 n size Q) (i : Int) (hi : ¬ (0 ≤ i ∧ i < n)) : Calls Try.prog 77 #[.pointer (some ⟨g, 0, none⟩), .int .i64 i] w fun e w' => e = .returned (.slice none 0 0) ∧ Below w.heap.size w w' := by
  have H := Lib.hid h
  have HI := Lib.hid hi
  clear h hi
  go_enter Try.func77, Try.ntmps77
  go_wp2_with fail
  refine (takeL_arg H.out i HI.out).mono ?_
  rintro e w1 ⟨rfl, hb⟩
  have HB := Lib.hid hb
  clear hb
  go_wp2_with fail
  refine wp_loop_rounds 1 ?_
  rw [rounds_succ]
  go_wp2_with fail
  go_ret
  exact ⟨rfl, HB.out⟩
theorem drain_take {w wr : World} {g ga c0 n size k : Nat} {Q : List (List Value)} {vo : Value} {ins rest : List Int} (h : Dr w wr g ga c0 n size k Q vo ins rest) (hkn : k < n) (hl : Q.length = n) :
    Calls Try.prog 54 #[.pointer (some ⟨g, 0, none⟩), .int .i64 k] wr fun e w' => e = .returned (.tuple #[.int .i64 (rest.head?.getD 0), .bool (!rest.isEmpty)]) ∧ Dr w w' g ga c0 n size k Q vo ins (rest.drop 1) := by
  have hq : (Q.set k (rest.map (Value.int .i64)))[k]? = some (rest.map (Value.int .i64)) := List.getElem?_set_self (by omega)
  cases rest with
  | nil =>
    refine (takeL_no h.ln k hq).mono ?_
    rintro e w2 ⟨rfl, hb⟩
    exact ⟨rfl, h.below hb⟩
  | cons x r =>
    refine (takeB h.ln k x (r.map (Value.int .i64)) hq).mono ?_
    rintro e w2 ⟨rfl, hln, hmd, hbx⟩
    exact ⟨rfl, h.turn hln hmd hbx⟩
set_option maxRecDepth 100000 in
set_option maxHeartbeats 2000000 in
theorem drain {w : World} {g ga c0 n size : Nat} {Q : List (List Value)} (h : LN 113 111 3 w g ga c0 n size Q) (hn1 : 1 ≤ n) (k : Nat) (hkn : k < n) (l : List Int) (hk : Q[k]? = some (l.map (Value.int .i64))) (hl : l.length ≤ 8) :
    Calls Try.prog 77 #[.pointer (some ⟨g, 0, none⟩), .int .i64 k] w fun e w' => ∃ vo, e = .returned vo ∧ Dr w w' g ga c0 n size k Q vo l [] := by
  have hQl := h.hl
  have D0 : Hid (Dr w w g ga c0 n size k Q (.slice none 0 0) [] l) := by
    have e : Q.set k (l.map (Value.int .i64)) = Q := by
      apply List.ext_getElem?
      intro j
      by_cases hj : j = k
      · subst hj; rw [List.getElem?_set_self (by omega), hk]
      · rw [List.getElem?_set_ne (fun e => hj e.symm)]
    exact ⟨by rw [e]; exact h, Rw.nil _ _ _, fun j hj => by simp [Value.ownBlock] at hj, fun q hq => .inl hq, Mods.refl _ _, hn1⟩
  clear h hk
  go_enter Try.func77, Try.ntmps77
  go_wp2_with fail
  refine (drain_take D0.out hkn hQl).mono ?_
  rintro e w1 ⟨rfl, hd⟩
  have D1 := Lib.hid hd
  clear hd D0
  go_wp2_with fail
  go_loopg [5, 6, 7] l.length (fun r v5 v6 v7 wr => ∃ (ins rest : List Int) (vo : Value), r = rest.length ∧ l = ins ++ rest ∧ v5 = vo ∧ v6 = .int .i64 (rest.head?.getD 0) ∧ v7 = .bool (!rest.isEmpty) ∧ Dr w wr g ga c0 n size k Q vo ins (rest.drop 1))
  case atStart => exact ⟨[], l, _, rfl, rfl, rfl, rfl, rfl, D1.out⟩
  case round =>
    clear D1
    obtain ⟨ins, rest, vo, hr, hil, rfl, rfl, rfl, hd⟩ := hrel
    cases rest with
    | nil =>
      have D := Lib.hid hd
      have HL := Lib.hid hil
      clear hd hil
      simp only [List.isEmpty_nil, Bool.not_true]
      go_wp2_with fail
      go_ret
      refine ⟨_, rfl, ?_⟩
      have := D.out
      rw [HL.out, List.append_nil]
      exact this
    | cons x r =>
      have hlen : l.length = ins.length + (r.length + 1) := by rw [hil]; simp
      obtain ⟨y, c, w2, k1, k2⟩ := hd.push x (by omega)
      have K1 := Lib.hid k1
      have K2 := Lib.hid k2
      have HL : Hid (l = (ins ++ [x]) ++ r) := by show _ = _; rw [hil]; simp
      obtain ⟨yo, co, rfl, _, _⟩ := hd.rw'.form
      clear hd k1 k2 hil
      simp only [List.isEmpty_cons, Bool.not_false, List.head?_cons, Option.getD_some]
      go_wp2_with (at_builtin; refine wpList_appK 29 rfl (.tmp 21) (.tmp 23) rfl rfl rfl rfl K1.out ?_)
      refine (drain_take K2.out hkn hQl).mono ?_
      rintro e w3 ⟨rfl, hd3⟩
      have D3 := Lib.hid hd3
      clear hd3
      go_wp2_with fail
      go_roundg r.length
      case measure => simp at hr; omega
      case rel => exact ⟨ins ++ [x], r, _, rfl, HL.out, rfl, rfl, rfl, D3.out⟩
set_option maxRecDepth 100000 in
set_option maxHeartbeats 4000000 in
theorem jone3_arg {w0 w : World} {g ga c0 n size gx : Nat} {u : Value} {vs : Nat → Value} {A : Nat → List Int} (h : J2 w0 w g ga c0 n size gx u vs A A) (hA : ∀ j, j < n → (A j).length ≤ size) (n8 : n ≤ 8) (h8 : size ≤ 8) (l x : Int) (hE : ¬ (0 ≤ l ∧ l < n)) (hl0 : -9223372036854775808 ≤ l) (hl1 : l ≤ 9223372036854775807) :
    Calls Try.prog 42 #[.pointer (some ⟨g, 0, none⟩), .pointer (some ⟨gx, 0, none⟩), .agg #[.int .i64 3, .int .i64 l, .int .i64 x]] w (OneJ w0 g ga c0 n size gx u) := by
  obtain ⟨w1, hw1⟩ : ∃ w1, w1 = w.alloc (.cells #[.int .i64 3, .int .i64 l, .int .i64 x] 75) := ⟨_, rfl⟩
  obtain ⟨gop, hgop⟩ : ∃ gop, gop = w.heap.size := ⟨_, rfl⟩
  have hh1 : w1.heap[gop]? = some (.cells #[.int .i64 3, .int .i64 l, .int .i64 x] 75 (0, 0)) := by rw [hw1, hgop]; exact heap_alloc_new _ _
  have h1 : J2 w0 w1 g ga c0 n size gx u vs A A := by rw [hw1]; exact h.below ((Below.refl _ _).alloc (Nat.le_refl _) _)
  have H1 := Lib.hid h1
  have HH1 := Lib.hid hh1
  have HW := Lib.hid hw1
  have HG := Lib.hid hgop
  have HA := Lib.hid hA
  have k0 : w1.cell? ⟨gop, 0, none⟩ = some (.int .i64 3) := by rw [cell_of_row _ _ _ _ _ _ hh1]; rfl
  have k1 : w1.cell? ⟨gop, 1, none⟩ = some (.int .i64 l) := by rw [cell_of_row _ _ _ _ _ _ hh1]; rfl
  clear h h1 hh1 hw1 hgop hA
  go_enter Try.func42, Try.ntmps42
  go_wp2_with fail
  rw [← HW.out, ← HG.out]
  obtain ⟨Q, hQ, hq⟩ := H1.out.ln
  refine (drain_no hQ l hE).mono ?_
  rintro e w2 ⟨rfl, hb⟩
  have H2 := Lib.hid (H1.out.below hb)
  have k2 : w2.cell? ⟨gop, 1, none⟩ = some (.int .i64 l) := (hb.cell (p := ⟨gop, 1, none⟩) (World.block_lt_of_cell? w1 _ k1)).trans k1
  have HE := Lib.hid hE
  clear hb hE k0 k1 hQ hq
  go_wp2_with fail
  refine (docLen_no H2.out.dl l HE.out).mono ?_
  rintro e w3 ⟨rfl, rfl⟩
  go_wp2_with fail
  refine wp_loop_rounds 1 ?_
  rw [rounds_succ]
  go_wp2_with fail
  go_ret
  exact ⟨_, _, rfl, H2.out, HA.out⟩
set_option maxRecDepth 100000 in
set_option maxHeartbeats 4000000 in
theorem jone3 {w0 w : World} {g ga c0 n size gx : Nat} {u : Value} {vs : Nat → Value} {A : Nat → List Int} (h : J2 w0 w g ga c0 n size gx u vs A A) (hA : ∀ j, j < n → (A j).length ≤ size) (n8 : n ≤ 8) (h8 : size ≤ 8) (x : Int) (k : Nat) (hk : k < n) :
    Calls Try.prog 42 #[.pointer (some ⟨g, 0, none⟩), .pointer (some ⟨gx, 0, none⟩), .agg #[.int .i64 3, .int .i64 k, .int .i64 x]] w (OneJ w0 g ga c0 n size gx u) := by
  obtain ⟨w1, hw1⟩ : ∃ w1, w1 = w.alloc (.cells #[.int .i64 3, .int .i64 k, .int .i64 x] 75) := ⟨_, rfl⟩
  obtain ⟨gop, hgop⟩ : ∃ gop, gop = w.heap.size := ⟨_, rfl⟩
  have hh1 : w1.heap[gop]? = some (.cells #[.int .i64 3, .int .i64 k, .int .i64 x] 75 (0, 0)) := by rw [hw1, hgop]; exact heap_alloc_new _ _
  have h1 : J2 w0 w1 g ga c0 n size gx u vs A A := by rw [hw1]; exact h.below ((Below.refl _ _).alloc (Nat.le_refl _) _)
  have H1 := Lib.hid h1
  have HH1 := Lib.hid hh1
  have HW := Lib.hid hw1
  have HG := Lib.hid hgop
  have HA := Lib.hid hA
  have k0 : w1.cell? ⟨gop, 0, none⟩ = some (.int .i64 3) := by rw [cell_of_row _ _ _ _ _ _ hh1]; rfl
  have k1 : w1.cell? ⟨gop, 1, none⟩ = some (.int .i64 k) := by rw [cell_of_row _ _ _ _ _ _ hh1]; rfl
  clear h h1 hh1 hw1 hgop hA
  go_enter Try.func42, Try.ntmps42
  go_wp2_with fail
  rw [← HW.out, ← HG.out]
  obtain ⟨Q, hQ, hq⟩ := H1.out.ln
  have hn1 := H1.out.n1
  have hAk := HA.out k hk
  refine (drain hQ hn1 k hk (A k) (hq k hk) (by omega)).mono ?_
  rintro e w2 ⟨vo, rfl, hd⟩
  have H2 : Hid (J2 w0 w2 g ga c0 n size gx u vs (upd A k []) A) := H1.out.turna ⟨_, hd.ln, setUpd hQ.hl hq k hk []⟩ hd.md hd.bx
  have hh2 := H1.out.kepta HH1.out hd.md
  have HH2 := Lib.hid hh2
  have k2 : w2.cell? ⟨gop, 1, none⟩ = some (.int .i64 k) := by rw [cell_of_row _ _ _ _ _ _ hh2]; rfl
  obtain ⟨yo, co, rfl, hy1, hy2⟩ := hd.rw'.form
  have HR := Lib.hid hd.rw'
  have HO : Hid (∀ j, (Value.slice yo (A k).length co).ownBlock = some j → ¬ DB gx n u vs j) := fun j hj hdb => by
    have h1 := (hd.ow j hj).1
    have h2 := H1.out.dl.lt hdb
    omega
  unfold maxLen at hy2
  clear hd hh2 k0 k1 hQ hq
  go_wp2_with fail
  refine (docLen H2.out.dl k hk).mono ?_
  rintro e w3 ⟨rfl, rfl⟩
  obtain ⟨al, hal⟩ : ∃ al, al = A k := ⟨_, rfl⟩
  have HAL := Lib.hid hal
  have hB0 : upd A k (al.drop 0) = A := by
    funext j
    by_cases hj : j = k
    · subst hj; rw [upd_self, List.drop_zero, hal]
    · rw [upd_ne _ _ _ _ hj]
  have H3 : Hid (J2 w0 w2 g ga c0 n size gx u vs (upd A k []) (upd A k (al.drop 0))) := by show J2 _ _ _ _ _ _ _ _ _ _ _ _; rw [hB0]; exact H2.out
  rw [← hal] at HR HO hy1 hAk ⊢
  clear hal H2 hB0
  go_wp2_with fail
  go_loopg [18] al.length (fun r vi wr => ∃ (i : Nat) (vs' : Nat → Value), r + i = al.length ∧ vi = .int .i64 i ∧ J2 w0 wr g ga c0 n size gx u vs' (upd A k []) (upd A k (al.drop i)) ∧ Rw wr 3 1 (.slice yo al.length co) al.length (al.map (Value.int .i64)) ∧ (∀ j, (Value.slice yo al.length co).ownBlock = some j → ¬ DB gx n u vs' j) ∧ wr.heap[gop]? = some (.cells #[.int .i64 3, .int .i64 k, .int .i64 x] 75 (0, 0)))
  case atStart => exact ⟨0, vs, by omega, rfl, H3.out, HR.out, HO.out, HH2.out⟩
  case round =>
    clear H3 HR HO HH2 k2
    obtain ⟨i, vs', hr, rfl, hj, hrw, ho, hh⟩ := hrel
    by_cases hlt : i < al.length
    · have k3 : wr.cell? ⟨gop, 1, none⟩ = some (.int .i64 k) := by rw [cell_of_row _ _ _ _ _ _ hh]; rfl
      have hai : al[i]? = some (al[i]'hlt) := List.getElem?_eq_getElem hlt
      have hdr : upd A k (al.drop i) k = al[i]'hlt :: al.drop (i + 1) := by rw [upd_self, List.drop_eq_getElem_cons hlt]
      generalize al[i]'hlt = a at hai hdr
      obtain ⟨vb, vo, rfl, hcx, _⟩ := hrw.cell (j := i) (u := .int .i64 a) (by simp [hai])
      have J := Lib.hid hj
      have RR := Lib.hid hrw
      have O := Lib.hid ho
      have HH := Lib.hid hh
      have HDR := Lib.hid hdr
      have LB := Lib.hid (hrw.lt vb rfl)
      have HCX := Lib.hid hcx
      clear hj hrw ho hh hai hdr hcx
      go_wp2_with fail
      refine (docTake J.out.dl k hk a _ HDR.out (by simp; omega)).mono ?_
      rintro e w4 ⟨rfl, v4, hd, hm, ha⟩
      have J4 : Hid (J2 w0 w4 g ga c0 n size gx u (upd vs' k v4) (upd A k []) (upd A k (al.drop (i + 1)))) := by
        have := J.out.turnb hd hm ha
        have e : upd (upd A k (al.drop i)) k (al.drop (i + 1)) = upd A k (al.drop (i + 1)) := by
          funext j
          by_cases hj : j = k
          · subst hj; rw [upd_self, upd_self]
          · rw [upd_ne _ _ _ _ hj, upd_ne _ _ _ _ hj, upd_ne _ _ _ _ hj]
        rw [e] at this
        exact this
      have R4 := Lib.hid (RR.out.mods hm (fun j hj hdb => O.out j hj hdb))
      have O4 : Hid (∀ j, (Value.slice (some ⟨vb, vo, none⟩) al.length co).ownBlock = some j → ¬ DB gx n u (upd vs' k v4) j) := fun j hj hdb => by
        rcases ha j hdb with h1 | h1
        · exact O.out j hj h1
        · have := RR.out.lt j hj; omega
      have HH4 := Lib.hid (J.out.keptb HH.out (by decide) (by decide) (by decide) hm)
      have hcx4 : w4.cell? ⟨vb, vo + i, none⟩ = some (.int .i64 a) := (World.cell?_of_block (hm.block vb LB.out (O.out vb rfl))).trans HCX.out
      clear hd hm ha J RR O HH HDR k3
      go_wp2_with fail
      go_roundg (al.length - (i + 1))
      case measure => omega
      case rel => exact ⟨i + 1, _, by omega, by go_num, J4.out, R4.out, O4.out, HH4.out⟩
    · obtain rfl : i = al.length := by omega
      have J : Hid (J2 w0 wr g ga c0 n size gx u vs' (upd A k []) (upd A k [])) := by
        have := hj
        rw [List.drop_length] at this
        exact this
      clear hj hrw ho hh
      go_wp2_with fail
      go_ret
      exact ⟨_, _, rfl, J.out, upd_fit HA.out k [] (by simp)⟩
theorem joneC {w0 w : World} {g ga c0 n size gx : Nat} {u : Value} {vs : Nat → Value} {A : Nat → List Int} (h : J2 w0 w g ga c0 n size gx u vs A A) (hA : ∀ j, j < n → (A j).length ≤ size) (n8 : n ≤ 8) (h8 : size ≤ 8) (kd l x : Int) (hl0 : -9223372036854775808 ≤ l) (hl1 : l ≤ 9223372036854775807) :
    Calls Try.prog 42 #[.pointer (some ⟨g, 0, none⟩), .pointer (some ⟨gx, 0, none⟩), .agg #[.int .i64 kd, .int .i64 l, .int .i64 x]] w (OneJ w0 g ga c0 n size gx u) := by
  by_cases e0 : kd = 0
  · subst e0; exact jone0 h hA n8 h8 l x hl0 hl1
  by_cases e1 : kd = 1
  · subst e1
    by_cases hE : 0 ≤ l ∧ l < n
    · obtain ⟨k, rfl⟩ : ∃ k : Nat, l = k := ⟨l.toNat, by omega⟩
      cases hq : A k with
      | nil => exact jone1_no h hA n8 h8 x k (by omega) hq
      | cons a al => exact jone1 h hA n8 h8 x k (by omega) a al hq
    · exact jone1_arg h hA n8 h8 l x hE hl0 hl1
  by_cases e2 : kd = 2
  · subst e2; exact jone2 h hA n8 h8 l x hl0 hl1
  by_cases e3 : kd = 3
  · subst e3
    by_cases hE : 0 ≤ l ∧ l < n
    · obtain ⟨k, rfl⟩ : ∃ k : Nat, l = k := ⟨l.toNat, by omega⟩
      exact jone3 h hA n8 h8 x k (by omega)
    · exact jone3_arg h hA n8 h8 l x hE hl0 hl1
  exact jone9 h hA n8 h8 l x kd (by simpa using e0) (by simpa using e1) (by simpa using e2) (by simpa using e3) hl0 hl1
end Go.Proofs.Ytfdihgahegfamaa
