/-
  Contract of played: a row behind ops, as a function of the ops. Condition: the ops are a slice of pairs of ints.
-/
import Derived.Test.YtklhnibmpdaioaaL
namespace Go.Proofs.Ytklhnibmpdaioaa
open Go.ChangeShapes Go.WideShapes Go.ChangeAt Go.RowKit Go.Deep
/-- The first free place among k from s on. -/
def frq (f : Nat → Nat) : Nat → Nat → Option Nat
  | 0, _ => none
  | k + 1, s => if f s = 0 then some s else frq f k (s + 1)
theorem frq_spec (f : Nat → Nat) (k : Nat) : ∀ s : Nat, FreeO (s + k) f s (((frq f k s).getD 0 : Nat) : Int) (frq f k s).isSome := by
  induction k with
  | zero => intro s; exact .inr ⟨rfl, rfl, fun j h1 h2 => by omega⟩
  | succ k ih =>
    intro s
    unfold frq
    by_cases h : f s = 0
    · rw [if_pos h]
      exact .inl ⟨rfl, s, rfl, by omega, by omega, h, fun j h1 h2 => by omega⟩
    · rw [if_neg h]
      have e : s + (k + 1) = s + 1 + k := by omega
      rcases ih (s + 1) with ⟨h0, q, h1, h2, h3, h4, h5⟩ | ⟨h0, h1, h2⟩
      · refine .inl ⟨h0, q, h1, by omega, by omega, h4, fun j k1 k2 => ?_⟩
        by_cases hj : j = s
        · rw [hj]; exact h
        · exact h5 j (by omega) k2
      · refine .inr ⟨h0, h1, fun j k1 k2 => ?_⟩
        by_cases hj : j = s
        · rw [hj]; exact h
        · exact h2 j (by omega) (by omega)
/-- The first free place of a row, from a place on. -/
def fro (N : Nat) (f : Nat → Nat) (i : Int) : Option Nat := frq f (N - i.toNat) i.toNat
theorem fro_spec (N : Nat) (f : Nat → Nat) (i : Int) : FreeO N f i (((fro N f i).getD 0 : Nat) : Int) (fro N f i).isSome := by
  by_cases h : i.toNat ≤ N
  · have := frq_spec f (N - i.toNat) i.toNat
    rw [show i.toNat + (N - i.toNat) = N by omega] at this
    exact this.max (by omega)
  · unfold fro
    rw [show N - i.toNat = 0 by omega]
    exact .inr ⟨rfl, rfl, fun j h1 h2 => by omega⟩
/-- What an op makes of a row. -/
def stp (N : Nat) (f : Nat → Nat) (k i : Int) : Nat → Nat :=
  if k = 0 then hF N f i else if k = 1 then dF N f i else if k = 2 then (match fro N f i with | some q => hF N f q | none => f) else f
/-- What ops make of a row of 150 places. -/
def play (F : Nat → Nat → Int) : Nat → Nat → Nat
  | 0 => fun _ => 0
  | n + 1 => stp 150 (play F n) (F n 0) (F n 1)
/-- A row behind ops. -/
def PlayP (w0 w : World) (f : Nat → Nat) (e : Ending) (w' : World) : Prop :=
  ∃ g mb wb, e = .returned (.tuple #[.pointer (some ⟨g, 0, none⟩), .bool true]) ∧ BR w' g 150 mb wb f ∧ w.heap.size ≤ g ∧ w.heap.size ≤ mb ∧ w.heap.size ≤ wb ∧ Below w.heap.size w w' ∧ Below w0.heap.size w0 w'
theorem SO.below {m : Nat} {w w' : World} {v : Value} {L : Nat} {f : Nat → Nat → Int} (h : SO m w v L f) (hb : Below w.heap.size w w') : SO m w' v L f := by
  obtain ⟨x, c, rfl, h1, h2, h3⟩ := h
  refine ⟨x, c, rfl, h1, h2, fun i j hi hj => ?_⟩
  obtain ⟨p0, p1, b, o, e, h4, h5⟩ := h3 i j hi hj
  exact ⟨p0, p1, b, o, e, by have := hb.size; omega, (hb.cell (p := ⟨b, o + (i * m + j), none⟩) h4).trans h5⟩
set_option maxRecDepth 100000 in
set_option maxHeartbeats 4000000 in
theorem playedB (lv : Value) (L : Nat) (F : Nat → Nat → Int) (w : World) (h : SO 2 w lv L F) :
    Calls Try.prog 50 #[lv] w (PlayP w w (play F (min L 150))) := by
  obtain ⟨x, c, rfl, hx1, hx2, hx3⟩ := h
  unfold maxLen at hx2
  have X := Lib.hid hx3
  clear hx3
  go_enter Try.func50, Try.ntmps50
  go_wp2_with fail
  refine (newB 150 (by omega) (by omega) w).mono ?_
  rintro e w1 ⟨g, mb, wb, rfl, r, h1, h2, h3, hb⟩
  have S0 : Hid (BR w1 g 150 mb wb (play F 0)) := r
  have B0 := Lib.hid hb
  have HG := Lib.hid (And.intro h1 (And.intro h2 h3))
  clear r hb h1 h2 h3
  go_wp2_with fail
  go_loopg [6, 7, 8] (min L 150) (fun r vi _ _ wr => ∃ i : Nat, r + i = min L 150 ∧ vi = .int .i64 i ∧ BR wr g 150 mb wb (play F i) ∧ Below w.heap.size w wr)
  case atStart => exact ⟨0, by omega, rfl, S0.out, B0.out⟩
  case round =>
    clear S0 B0
    obtain ⟨i, hr, rfl, hs, hb⟩ := hrel
    have S := Lib.hid hs
    have B := Lib.hid hb
    clear hs hb
    by_cases hlt : i < L
    · by_cases h150 : i < 150
      · obtain ⟨p0, p1, b, o, rfl, hb1, hc0⟩ := X.out i 0 hlt (by omega)
        obtain ⟨p2, p3, b', o', he, _, hc1⟩ := X.out i 1 hlt (by omega)
        simp only [Option.some.injEq, Addr.mk.injEq] at he
        obtain ⟨rfl, rfl, _⟩ := he
        rw [Nat.add_zero] at hc0
        have hd0 : wr.cell? ⟨b, o + i * 2, none⟩ = some (.int .i64 (F i 0)) := (B.out.cell (p := ⟨b, o + i * 2, none⟩) hb1).trans hc0
        have hd1 : wr.cell? ⟨b, o + (i * 2 + 1), none⟩ = some (.int .i64 (F i 1)) := (B.out.cell (p := ⟨b, o + (i * 2 + 1), none⟩) hb1).trans hc1
        have hd2 : wr.cell? ⟨b, o + i * 2 + 1, none⟩ = some (.int .i64 (F i 1)) := by rw [Nat.add_assoc]; exact hd1
        have ST : Hid (play F (i + 1) = stp 150 (play F i) (F i 0) (F i 1)) := rfl
        generalize F i 0 = kd at *
        generalize F i 1 = xx at *
        clear hc0 hc1
        have HR := Lib.hid hr
        clear hr
        by_cases k0 : kd = 0
        · have hk : (kd == 0) = true := by simp [k0]
          have HS : Hid (play F (i + 1) = hF 150 (play F i) xx) := by show _ = _; rw [ST.out]; unfold stp; rw [if_pos k0]
          clear k0
          go_wp2_with fail
          refine (holdAny S.out xx).mono ?_
          rintro e w2 ⟨rfl, r, hm⟩
          have S2 := Lib.hid r
          have B2 := Lib.hid (mods_below B.out hm B.out.size HG.out.2.1 HG.out.2.2)
          clear r hm S B hd0 hd1 hd2
          go_wp2_with fail
          go_roundg (min L 150 - (i + 1))
          case measure => have := HR.out; omega
          case rel => exact ⟨i + 1, by omega, by go_num, by rw [HS.out]; exact S2.out, B2.out⟩
        · by_cases k1 : kd = 1
          · have hk : (kd == 0) = false := by simp [k0]
            have hk1 : (kd == 1) = true := by simp [k1]
            have HS : Hid (play F (i + 1) = dF 150 (play F i) xx) := by show _ = _; rw [ST.out]; unfold stp; rw [if_neg k0, if_pos k1]
            clear k0 k1
            go_wp2_with fail
            refine (dropAny S.out xx).mono ?_
            rintro e w2 ⟨rfl, r, hm⟩
            have S2 := Lib.hid r
            have B2 := Lib.hid (mods_below B.out hm B.out.size HG.out.2.1 HG.out.2.2)
            clear r hm S B hd0 hd1 hd2
            go_wp2_with fail
            go_roundg (min L 150 - (i + 1))
            case measure => have := HR.out; omega
            case rel => exact ⟨i + 1, by omega, by go_num, by rw [HS.out]; exact S2.out, B2.out⟩
          · by_cases k2 : kd = 2
            · have hk : (kd == 0) = false := by simp [k0]
              have hk1 : (kd == 1) = false := by simp [k1]
              have hk2 : (kd == 2) = true := by simp [k2]
              have HS : Hid (play F (i + 1) = (match fro 150 (play F i) xx with | some q => hF 150 (play F i) q | none => play F i)) := by show _ = _; rw [ST.out]; unfold stp; rw [if_neg k0, if_neg k1, if_pos k2]
              clear k0 k1 k2
              go_wp2_with fail
              refine (freeB S.out xx).mono ?_
              rintro e w' ⟨p, q, rfl, hf, rfl⟩
              have hone := hf.one (fro_spec 150 (play F i) xx)
              have HO := Lib.hid hone
              clear hone hf
              cases q with
              | true =>
                have HS2 : Hid (play F (i + 1) = hF 150 (play F i) p) := by
                  show _ = _
                  rw [HS.out]
                  have h1 := HO.out.1
                  have h2 := HO.out.2
                  cases hq : fro 150 (play F i) xx with
                  | none => rw [hq] at h2; cases h2
                  | some z => rw [hq] at h1; rw [h1]; rfl
                go_wp2_with fail
                refine (holdAny S.out p).mono ?_
                rintro e w2 ⟨rfl, r, hm⟩
                have S2 := Lib.hid r
                have B2 := Lib.hid (mods_below B.out hm B.out.size HG.out.2.1 HG.out.2.2)
                clear r hm S B hd0 hd1 hd2
                go_wp2_with fail
                go_roundg (min L 150 - (i + 1))
                case measure => have := HR.out; omega
                case rel => exact ⟨i + 1, by omega, by go_num, by rw [HS2.out]; exact S2.out, B2.out⟩
              | false =>
                have HS2 : Hid (play F (i + 1) = play F i) := by
                  show _ = _
                  rw [HS.out]
                  have h2 := HO.out.2
                  cases hq : fro 150 (play F i) xx with
                  | none => rfl
                  | some z => rw [hq] at h2; cases h2
                go_wp2_with fail
                go_roundg (min L 150 - (i + 1))
                case measure => have := HR.out; omega
                case rel => exact ⟨i + 1, by omega, by go_num, by rw [HS2.out]; exact S.out, B.out⟩
            · have hk : (kd == 0) = false := by simp [k0]
              have hk1 : (kd == 1) = false := by simp [k1]
              have hk2 : (kd == 2) = false := by simp [k2]
              have HS : Hid (play F (i + 1) = play F i) := by show _ = _; rw [ST.out]; unfold stp; rw [if_neg k0, if_neg k1, if_neg k2]
              clear k0 k1 k2
              go_wp2_with fail
              go_roundg (min L 150 - (i + 1))
              case measure => have := HR.out; omega
              case rel => exact ⟨i + 1, by omega, by go_num, by rw [HS.out]; exact S.out, B.out⟩
      · have HI : Hid (i = min L 150) := by show _ = _; omega
        clear hr
        go_wp2_with fail
        go_ret2
        exact ⟨g, mb, wb, rfl, by rw [← HI.out]; exact S.out, HG.out.1, HG.out.2.1, HG.out.2.2, B.out, B.out⟩
    · have HI : Hid (i = min L 150) := by show _ = _; omega
      clear hr
      go_wp2_with fail
      go_ret2
      exact ⟨g, mb, wb, rfl, by rw [← HI.out]; exact S.out, HG.out.1, HG.out.2.1, HG.out.2.2, B.out, B.out⟩
end Go.Proofs.Ytklhnibmpdaioaa
