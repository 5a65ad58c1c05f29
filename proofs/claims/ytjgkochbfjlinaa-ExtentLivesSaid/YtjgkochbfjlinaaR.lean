/-
  Contract of package extent: Resize. Condition: the field lies in memory.
-/
import Derived.Test.YtjgkochbfjlinaaV
import Derived.IntWalk
namespace Go.Proofs.Ytjgkochbfjlinaa
open Go.RowKit
def sRes (N : Nat) (s : St) (t r q : Int) : Int × St :=
  if mayL N t r q then (if isIn s.T t then (if q < (s.T t.toNat).c then (60, s) else if slack N s.T + (s.T t.toNat).sh < (Acc.sh ⟨true, r, q, (s.T t.toNat).c⟩) then (61, s) else (0, ⟨s.f, updT s.T t.toNat ⟨true, r, q, (s.T t.toNat).c⟩⟩)) else (51, s)) else (1, s)
section
variable {w w' : World} {g rb mb wb N : Nat} {s : St}
theorem resize_nil (t r q : Int) (w : World) : Calls Try.prog 21 #[.pointer none, .int .i64 t, .int .i64 r, .int .i64 q] w fun e w' => e = .returned (.int .i64 6) ∧ w = w' := by
  go_enter Try.func21, Try.ntmps21
  go_wp2_with (go_at_call 43; refine (fitF_nil _ _ _ _).mono ?_; rintro e w' ⟨rfl, rfl⟩)
  go_ret
  exact ⟨rfl, rfl⟩
def A4 (w : World) (b o : Nat) (a : Acc) : Prop := w.cell? ⟨b, o, none⟩ = some (.bool a.i) ∧ w.cell? ⟨b, o + 1, none⟩ = some (.int .i64 a.r) ∧ w.cell? ⟨b, o + 2, none⟩ = some (.int .i64 a.q) ∧ w.cell? ⟨b, o + 3, none⟩ = some (.int .i64 a.c)
theorem A4.below {w w' : World} {b o : Nat} {a : Acc} (h : A4 w b o a) (hl : b < w.heap.size) (hb : Below w.heap.size w w') : A4 w' b o a :=
  ⟨(hb.cell (p := ⟨b, o, none⟩) hl).trans h.1, (hb.cell (p := ⟨b, o + 1, none⟩) hl).trans h.2.1, (hb.cell (p := ⟨b, o + 2, none⟩) hl).trans h.2.2.1, (hb.cell (p := ⟨b, o + 3, none⟩) hl).trans h.2.2.2⟩
theorem FS.a4 (h : FS w g rb mb wb N s) (n : Nat) (hn : n < 9) : A4 w g (1 + n * 4) (s.T n) := ⟨h.at0 n hn, h.at1 n hn, h.at2 n hn, h.at3 n hn⟩
theorem shareV (i : Bool) (r q c : Int) (w : World) : Calls Try.prog 36 #[.agg #[.bool i, .int .i64 r, .int .i64 q, .int .i64 c]] w fun e w' => e = .returned (.int .i64 (Acc.sh ⟨i, r, q, c⟩)) ∧ Below w.heap.size w w' := shareF ⟨i, r, q, c⟩ w
set_option maxRecDepth 100000 in
set_option maxHeartbeats 4000000 in
theorem resS (h : FS w g rb mb wb N s) (t r q : Int) : Calls Try.prog 21 #[.pointer (some ⟨g, 0, none⟩), .int .i64 t, .int .i64 r, .int .i64 q] w (CS w g rb mb wb N (sRes N s t r q)) := by
  have H := Lib.hid h
  unfold sRes
  by_cases hL : mayL N t r q
  · rw [if_pos hL]
    obtain ⟨n, rfl⟩ : ∃ n : Nat, t = n := ⟨t.toNat, by have := hL.1; omega⟩
    have FI := Lib.hid (fitF h n r q hL)
    by_cases hm : isIn s.T (n : Int)
    · rw [if_pos hm]
      obtain ⟨h1, h8, hi⟩ := hm
      rw [Int.toNat_natCast] at hi ⊢
      have hn0 : n < 9 := by omega
      have AD := Lib.hid (admF h n (by omega) (by omega) hi)
      have c3 := h.at3 n hn0
      have ALW : Hid (Below w.heap.size w (w.alloc (.cells #[.bool true, .int .i64 r, .int .i64 q, .int .i64 (s.T n).c] 51))) := (Below.refl _ _).alloc (Nat.le_refl _) _
      have d3 : (w.alloc (.cells #[.bool true, .int .i64 r, .int .i64 q, .int .i64 (s.T n).c] 51)).cell? ⟨g, 1 + n * 4 + 3, none⟩ = some (.int .i64 (s.T n).c) := (ALW.out.cell (p := ⟨g, 1 + n * 4 + 3, none⟩) h.lt).trans c3
      by_cases hq : q < (s.T n).c
      · rw [if_pos hq]
        clear h hL hi h1 h8
        generalize (s.T n).c = c at *
        go_enter Try.func21, Try.ntmps21
        go_wp2_with (first | (go_at_call 43; refine FI.out.mono ?_; rintro e w' ⟨rfl, rfl⟩) | (go_at_call 39; refine AD.out.mono ?_; rintro e w' ⟨rfl, rfl⟩))
        go_ret
        exact ⟨rfl, H.out.below ALW.out, Mods.of_below ALW.out⟩
      · rw [if_neg hq]
        have IV : Hid ((¬ slack N s.T + (s.T n).sh < (Acc.sh ⟨true, r, q, (s.T n).c⟩)) → Inv N s.f (updT s.T n ⟨true, r, q, (s.T n).c⟩)) := fun hs => by
          have hc := h.inv.cq n
          unfold mayL at hL
          refine h.inv.set n (by omega) (by omega) _ (fun e => by cases e) ⟨hL.2.2.1, hL.2.2.2.1, hL.2.2.2.2⟩ ⟨hc.1, by show (s.T n).c ≤ q; omega⟩ (by omega) ?_
          show (cnt s.f N : Int) = cnt s.f N - (s.T n).c + (s.T n).c
          omega
        have hl : Hid (g < w.heap.size) := h.lt
        have AA : Hid (∀ w1, FS w1 g rb mb wb N s → A4 w1 g (1 + n * 4) (s.T n)) := fun w1 k => k.a4 n hn0
        have NA : Hid (A4 (w.alloc (.cells #[.bool true, .int .i64 r, .int .i64 q, .int .i64 (s.T n).c] 51)) w.heap.size 0 ⟨true, r, q, (s.T n).c⟩) := by
          have e := heap_alloc_new w (.cells #[.bool true, .int .i64 r, .int .i64 q, .int .i64 (s.T n).c] 51)
          refine ⟨?_, ?_, ?_, ?_⟩ <;> (unfold World.cell?; rw [e]; rfl)
        have HS : Hid (∀ w1, FS w1 g rb mb wb N s → Calls Try.prog 12 #[.pointer (some ⟨g, 0, none⟩)] w1 fun e w' => e = .returned (.int .i64 (slack N s.T)) ∧ Below w1.heap.size w1 w') := fun w1 k => slackF k
        have SA : Hid (∀ i r q c w, Calls Try.prog 36 #[.agg #[.bool i, .int .i64 r, .int .i64 q, .int .i64 c]] w fun e w' => e = .returned (.int .i64 (Acc.sh ⟨i, r, q, c⟩)) ∧ Below w.heap.size w w') := shareV
        have SB := h.shn n
        have SL := sl0 h
        have hN := h.n2
        have SET : Hid (∀ w1, FS w1 g rb mb wb N s → (¬ slack N s.T + (s.T n).sh < (Acc.sh ⟨true, r, q, (s.T n).c⟩)) → FS ((((w1.setCell ⟨g, 1 + n * 4, none⟩ (.bool true)).setCell ⟨g, 1 + n * 4 + 1, none⟩ (.int .i64 r)).setCell ⟨g, 1 + n * 4 + 2, none⟩ (.int .i64 q)).setCell ⟨g, 1 + n * 4 + 3, none⟩ (.int .i64 (s.T n).c)) g rb mb wb N ⟨s.f, updT s.T n ⟨true, r, q, (s.T n).c⟩⟩
          ∧ Mods (Ft g mb wb) w1 ((((w1.setCell ⟨g, 1 + n * 4, none⟩ (.bool true)).setCell ⟨g, 1 + n * 4 + 1, none⟩ (.int .i64 r)).setCell ⟨g, 1 + n * 4 + 2, none⟩ (.int .i64 q)).setCell ⟨g, 1 + n * 4 + 3, none⟩ (.int .i64 (s.T n).c))) := fun w1 k hs => k.setA n hn0 ⟨true, r, q, (s.T n).c⟩ (IV.out hs)
        have FZ : Hid (∀ w1, FS w1 g rb mb wb N s → ∀ k, w1.frozen? ⟨g, k, none⟩ = false) := fun w1 k j => k.fz j
        clear h hL h1 h8 IV hi
        generalize slack N s.T = sl at *
        generalize s.T n = a at *
        obtain ⟨ai, ar, aq, ac⟩ := a
        simp only at *
        obtain ⟨p, ep⟩ : ∃ p, Acc.sh ⟨ai, ar, aq, ac⟩ = p := ⟨_, rfl⟩
        obtain ⟨p', ep'⟩ : ∃ p', Acc.sh ⟨true, r, q, ac⟩ = p' := ⟨_, rfl⟩
        rw [ep] at SB SET ⊢
        rw [ep'] at SET ⊢
        have hw : IntKind.i64.wrap (sl + p) = sl + p := IntWalk.i64_in _ (by omega)
        have SP : Hid (∀ w, Calls Try.prog 36 #[.agg #[.bool ai, .int .i64 ar, .int .i64 aq, .int .i64 ac]] w fun e w' => e = .returned (.int .i64 p) ∧ Below w.heap.size w w') := by rw [← ep]; exact SA.out _ _ _ _
        have SP' : Hid (∀ w, Calls Try.prog 36 #[.agg #[.bool true, .int .i64 r, .int .i64 q, .int .i64 ac]] w fun e w' => e = .returned (.int .i64 p') ∧ Below w.heap.size w w') := by rw [← ep']; exact SA.out _ _ _ _
        clear SB SL hN SA ep ep'
        generalize hU : updT s.T n ⟨true, r, q, ac⟩ = U at *
        clear hU
        obtain ⟨v, hv⟩ : ∃ v, w.heap.size = v := ⟨_, rfl⟩
        have HV : Hid (v < (w.alloc (.cells #[.bool true, .int .i64 r, .int .i64 q, .int .i64 ac] 51)).heap.size) := by show _ < _; simp [hv]
        by_cases hs : sl + p < p'
        · rw [if_pos hs]
          go_enter Try.func21, Try.ntmps21
          go_wp2_with (first | (go_at_call 43; refine FI.out.mono ?_; rintro e w' ⟨rfl, rfl⟩) | (go_at_call 39; refine AD.out.mono ?_; rintro e w' ⟨rfl, rfl⟩))
          rw [hv] at NA
          generalize w.alloc (.cells #[.bool true, .int .i64 r, .int .i64 q, .int .i64 ac] 51) = w0 at NA ALW d3 HV ⊢
          have H1 : Hid (FS w0.drew g rb mb wb N s) := (H.out.below ALW.out).heap rfl
          have N1 : Hid (A4 w0.drew v 0 ⟨true, r, q, ac⟩) := NA.out
          have L1 : Hid (Below w.heap.size w w0.drew) := ALW.out.drew
          have HV1 : Hid (v < w0.drew.heap.size) := HV.out
          have F1 := (AA.out _ H1.out)
          obtain ⟨x10, x11, x12, x13⟩ := F1
          obtain ⟨y10, y11, y12, y13⟩ := N1.out
          obtain ⟨u0, u1, u2, u3⟩ := AA.out w0 (H.out.below ALW.out)
          obtain ⟨t0, t1, t2, t3⟩ := NA.out
          clear d3 c3
          go_region_held3 (fun W => (W.cell? ⟨g, 1 + n * 4, none⟩ = some (.bool ai) ∧ W.cell? ⟨g, 1 + n * 4 + 1, none⟩ = some (.int .i64 ar) ∧ W.cell? ⟨g, 1 + n * 4 + 2, none⟩ = some (.int .i64 aq) ∧ W.cell? ⟨g, 1 + n * 4 + 3, none⟩ = some (.int .i64 ac)) ∧ W.cell? ⟨v, 0, none⟩ = some (.bool true) ∧ W.cell? ⟨v, 1, none⟩ = some (.int .i64 r) ∧ W.cell? ⟨v, 2, none⟩ = some (.int .i64 q) ∧ W.cell? ⟨v, 3, none⟩ = some (.int .i64 ac)) (go_keep)
            (first
              | (go_at_call 36; refine (SP'.out _).mono ?_; rintro e w2 ⟨rfl, hb2⟩; have H2 : Hid (FS w2 g rb mb wb N s) := FD.below H1.out hb2; have N2 : Hid (A4 w2 v 0 ⟨true, r, q, ac⟩) := N1.out.below HV1.out hb2; have L2 : Hid (Below w.heap.size w w2) := L1.out.trans (hb2.mono L1.out.size); have HV2 : Hid (v < w2.heap.size) := Nat.lt_of_lt_of_le HV1.out hb2.size; clear hb2; have F2 := (AA.out _ H2.out); obtain ⟨x20, x21, x22, x23⟩ := F2; obtain ⟨y20, y21, y22, y23⟩ := N2.out)
              | (go_at_call 12; refine (HS.out w2 H2.out).mono ?_; rintro e w3 ⟨rfl, hb3⟩; have H3 : Hid (FS w3 g rb mb wb N s) := FD.below H2.out hb3; have N3 : Hid (A4 w3 v 0 ⟨true, r, q, ac⟩) := N2.out.below HV2.out hb3; have L3 : Hid (Below w.heap.size w w3) := L2.out.trans (hb3.mono L2.out.size); have HV3 : Hid (v < w3.heap.size) := Nat.lt_of_lt_of_le HV2.out hb3.size; clear hb3; have F3 := (AA.out _ H3.out); obtain ⟨x30, x31, x32, x33⟩ := F3; obtain ⟨y30, y31, y32, y33⟩ := N3.out)
              | (go_at_call 36; refine (SP.out _).mono ?_; rintro e w4 ⟨rfl, hb4⟩; have H4 : Hid (FS w4 g rb mb wb N s) := FD.below H3.out hb4; have N4 : Hid (A4 w4 v 0 ⟨true, r, q, ac⟩) := N3.out.below HV3.out hb4; have L4 : Hid (Below w.heap.size w w4) := L3.out.trans (hb4.mono L3.out.size); have HV4 : Hid (v < w4.heap.size) := Nat.lt_of_lt_of_le HV3.out hb4.size; clear hb4; have F4 := (AA.out _ H4.out); obtain ⟨x40, x41, x42, x43⟩ := F4; obtain ⟨y40, y41, y42, y43⟩ := N4.out))
          go_wp2_with fail
          go_ret
          exact ⟨rfl, H4.out, Mods.of_below L4.out⟩
        · rw [if_neg hs]
          go_enter Try.func21, Try.ntmps21
          go_wp2_with (first | (go_at_call 43; refine FI.out.mono ?_; rintro e w' ⟨rfl, rfl⟩) | (go_at_call 39; refine AD.out.mono ?_; rintro e w' ⟨rfl, rfl⟩))
          rw [hv] at NA
          generalize w.alloc (.cells #[.bool true, .int .i64 r, .int .i64 q, .int .i64 ac] 51) = w0 at NA ALW d3 HV ⊢
          have H1 : Hid (FS w0.drew g rb mb wb N s) := (H.out.below ALW.out).heap rfl
          have N1 : Hid (A4 w0.drew v 0 ⟨true, r, q, ac⟩) := NA.out
          have L1 : Hid (Below w.heap.size w w0.drew) := ALW.out.drew
          have HV1 : Hid (v < w0.drew.heap.size) := HV.out
          have F1 := (AA.out _ H1.out)
          obtain ⟨x10, x11, x12, x13⟩ := F1
          obtain ⟨y10, y11, y12, y13⟩ := N1.out
          obtain ⟨u0, u1, u2, u3⟩ := AA.out w0 (H.out.below ALW.out)
          obtain ⟨t0, t1, t2, t3⟩ := NA.out
          clear d3 c3
          go_region_held3 (fun W => (W.cell? ⟨g, 1 + n * 4, none⟩ = some (.bool ai) ∧ W.cell? ⟨g, 1 + n * 4 + 1, none⟩ = some (.int .i64 ar) ∧ W.cell? ⟨g, 1 + n * 4 + 2, none⟩ = some (.int .i64 aq) ∧ W.cell? ⟨g, 1 + n * 4 + 3, none⟩ = some (.int .i64 ac)) ∧ W.cell? ⟨v, 0, none⟩ = some (.bool true) ∧ W.cell? ⟨v, 1, none⟩ = some (.int .i64 r) ∧ W.cell? ⟨v, 2, none⟩ = some (.int .i64 q) ∧ W.cell? ⟨v, 3, none⟩ = some (.int .i64 ac)) (go_keep)
            (first
              | (go_at_call 36; refine (SP'.out _).mono ?_; rintro e w2 ⟨rfl, hb2⟩; have H2 : Hid (FS w2 g rb mb wb N s) := FD.below H1.out hb2; have N2 : Hid (A4 w2 v 0 ⟨true, r, q, ac⟩) := N1.out.below HV1.out hb2; have L2 : Hid (Below w.heap.size w w2) := L1.out.trans (hb2.mono L1.out.size); have HV2 : Hid (v < w2.heap.size) := Nat.lt_of_lt_of_le HV1.out hb2.size; clear hb2; have F2 := (AA.out _ H2.out); obtain ⟨x20, x21, x22, x23⟩ := F2; obtain ⟨y20, y21, y22, y23⟩ := N2.out)
              | (go_at_call 12; refine (HS.out w2 H2.out).mono ?_; rintro e w3 ⟨rfl, hb3⟩; have H3 : Hid (FS w3 g rb mb wb N s) := FD.below H2.out hb3; have N3 : Hid (A4 w3 v 0 ⟨true, r, q, ac⟩) := N2.out.below HV2.out hb3; have L3 : Hid (Below w.heap.size w w3) := L2.out.trans (hb3.mono L2.out.size); have HV3 : Hid (v < w3.heap.size) := Nat.lt_of_lt_of_le HV2.out hb3.size; clear hb3; have F3 := (AA.out _ H3.out); obtain ⟨x30, x31, x32, x33⟩ := F3; obtain ⟨y30, y31, y32, y33⟩ := N3.out)
              | (go_at_call 36; refine (SP.out _).mono ?_; rintro e w4 ⟨rfl, hb4⟩; have H4 : Hid (FS w4 g rb mb wb N s) := FD.below H3.out hb4; have N4 : Hid (A4 w4 v 0 ⟨true, r, q, ac⟩) := N3.out.below HV3.out hb4; have L4 : Hid (Below w.heap.size w w4) := L3.out.trans (hb4.mono L3.out.size); have HV4 : Hid (v < w4.heap.size) := Nat.lt_of_lt_of_le HV3.out hb4.size; clear hb4; have F4 := (AA.out _ H4.out); obtain ⟨x40, x41, x42, x43⟩ := F4; obtain ⟨y40, y41, y42, y43⟩ := N4.out))
          have SE4 := Lib.hid (SET.out w4 H4.out hs)
          have z0 := FZ.out w4 H4.out (1 + n * 4)
          have z1 := FZ.out w4 H4.out (1 + n * 4 + 1)
          have z2 := FZ.out w4 H4.out (1 + n * 4 + 2)
          have z3 := FZ.out w4 H4.out (1 + n * 4 + 3)
          clear SET FZ
          go_wp2_with fail
          go_ret
          exact ⟨rfl, SE4.out.1, (Mods.of_below (S := Ft g mb wb) L4.out).trans SE4.out.2 (fun _ hb => .inl hb)⟩
    · rw [if_neg hm]
      have AD := Lib.hid (admF_no h n hm)
      clear h hL hm
      go_enter Try.func21, Try.ntmps21
      go_wp2_with (first | (go_at_call 43; refine FI.out.mono ?_; rintro e w' ⟨rfl, rfl⟩) | (go_at_call 39; refine AD.out.mono ?_; rintro e w' ⟨rfl, rfl⟩))
      go_ret
      exact ⟨rfl, H.out, Mods.refl _ _⟩
  · rw [if_neg hL]
    have FI := Lib.hid (fitF_no h t r q hL)
    clear h hL
    go_enter Try.func21, Try.ntmps21
    go_wp2_with (go_at_call 43; refine FI.out.mono ?_; rintro e w' ⟨rfl, rfl⟩)
    go_ret
    exact ⟨rfl, H.out, Mods.refl _ _⟩
end
end Go.Proofs.Ytjgkochbfjlinaa
