/-
  For every size, every slice of ints and every slice of bytes the law RingOrder of package casematelaw09 returns true, and the arguments read afterwards as before: what is pushed is popped, in order, each once; what had no room does not come. Condition: none.
-/
import Derived.Test.YtfdihgahegfamaaO
import Derived.Deep.LoopGhost
namespace Go.Proofs.Ytfdihgahegfamaa.ringOrder
open Go.ChangeShapes Go.WideShapes Go.ChangeAt Go.RowKit
theorem walk_out (n : Int) (x y : Option Addr) (l c m d : Nat) (hl : l ≤ 9223372036854775807) (hg : n < 1 ∨ 50 < n ∨ 200 < l) (w : World) :
    Calls Try.prog 5 #[.int .i64 n, .slice x l c, .slice y m d] w fun e w' => e = .returned (.bool true) ∧ Below w.heap.size w w' := by
  by_cases h1 : n < 1
  · go_enter Try.func5, Try.ntmps5
    go_wp2_with (go_at_call 12; refine (alive _).mono ?_; rintro e w1 ⟨rfl, hb⟩; have HB := Lib.hid hb; clear hb)
    go_ret
    exact ⟨rfl, HB.out⟩
  by_cases h2 : 50 < n
  · go_enter Try.func5, Try.ntmps5
    go_wp2_with (go_at_call 12; refine (alive _).mono ?_; rintro e w1 ⟨rfl, hb⟩; have HB := Lib.hid hb; clear hb)
    go_ret
    exact ⟨rfl, HB.out⟩
  have h3 : 200 < l := by omega
  clear hg
  go_enter Try.func5, Try.ntmps5
  go_wp2_with (go_at_call 12; refine (alive _).mono ?_; rintro e w1 ⟨rfl, hb⟩; have HB := Lib.hid hb; clear hb)
  go_ret
  exact ⟨rfl, HB.out⟩
theorem and3 (z : Int) (h0 : 0 ≤ z) (h1 : z ≤ 255) : ∃ m : Nat, bits .and .u8 z 3 = (m : Int) ∧ m ≤ 3 := by
  obtain ⟨n, rfl⟩ : ∃ n : Nat, z = n := ⟨z.toNat, by omega⟩
  have h : ∀ n : Fin 256, bits .and .u8 ((n.val : Nat) : Int) 3 = ((n.val % 4 : Nat) : Int) := by decide +kernel
  have := h ⟨n, by omega⟩
  exact ⟨n % 4, by simpa using this, by omega⟩

set_option maxRecDepth 100000 in
set_option maxHeartbeats 16000000 in
theorem walk_in (N : Nat) (hN1 : 1 ≤ N) (hN2 : N ≤ 50) (lv pv : Value) (l p : List Int) (hl : l.length ≤ 200) (w : World) (h : SI w lv l) (k : SB w pv p) :
    Calls Try.prog 5 #[.int .i64 N, lv, pv] w fun e w' => e = .returned (.bool true) ∧ Below w.heap.size w w' := by
  obtain ⟨x, c, rfl, hx1, hx2, hx3⟩ := h
  obtain ⟨y, d, rfl, hy1, hy2, hy3⟩ := k
  unfold maxLen at hx2 hy2
  have X := Lib.hid hx3
  have Y := Lib.hid hy3
  clear hx3 hy3
  go_enter Try.func5, Try.ntmps5
  go_wp2_with fail
  refine (newI N hN1 (by omega) w).mono ?_
  rintro e w1 ⟨rfl, hw1⟩
  have S0 : Hid (Ord w w1 w.heap.size N (.slice none 0 0) [] (.slice none 0 0) []) := by
    show Ord _ _ _ _ _ _ _ _
    rw [hw1]
    exact ⟨RG.new w N, Rw.nil _ _ _, fun k hk => by simp [Value.ownBlock] at hk, Nat.le_refl _, fun k hk => by simp [Value.ownBlock] at hk, fun k hk => by simp [Value.ownBlock] at hk, (Below.refl _ _).alloc (Nat.le_refl _) _⟩
  clear hw1
  go_wp2_with fail
  obtain ⟨g, hg⟩ : ∃ g, g = w.heap.size := ⟨_, rfl⟩
  rw [← hg] at S0 ⊢
  have HG := Lib.hid hg
  clear hg
  go_loopg [9, 10, 11, 12, 13, 14, 15] l.length (fun r vu va vi _ _ _ _ wr => ∃ (i a cq : Nat) (ux : Option Addr) (ins : List Int) (v : Value), r + i = l.length ∧ vi = .int .i64 i ∧ va = .int .i64 a ∧ vu = .slice ux ins.length cq ∧ a ≤ ins.length ∧ ins.length - a ≤ N ∧ ins.length ≤ i ∧ Ord w wr g N (.slice ux ins.length cq) ins v (ins.drop a))
  case atStart => exact ⟨0, 0, 0, none, [], _, by omega, rfl, rfl, rfl, by simp, by simp, by simp, S0.out⟩
  case round =>
    clear S0
    obtain ⟨i, a, cq, ux, ins, v, hr, rfl, rfl, rfl, ha, haN, hii, hs⟩ := hrel
    by_cases hlt : i < l.length
    · have hxi : l[i]? = some (l[i]'hlt) := List.getElem?_eq_getElem hlt
      generalize l[i]'hlt = z at hxi
      obtain ⟨b, o, rfl, hb1, hb2⟩ := X.out i z hxi
      have hc1 : wr.cell? ⟨b, o + i, none⟩ = some (.int .i64 z) := (hs.hb.cell (p := ⟨b, o + i, none⟩) hb1).trans hb2
      have S := Lib.hid hs
      have IR : (ins.drop a).length = ins.length - a := by simp
      have HIR := Lib.hid IR
      clear hb2 hs hxi IR
      by_cases hroom : ins.length - a < N
      · go_wp2_with fail
        refine (pushI S.out.rg (by rw [HIR.out]; exact hroom) (by omega) z).mono ?_
        rintro e w2 ⟨v2, rfl, hrg, hm, hanew⟩
        have s1 : Ord w w2 g N (.slice ux ins.length cq) ins v2 (ins.drop a ++ [z]) := S.out.turn (by simpa using hrg) hm hanew
        obtain ⟨u3, c3, w3, r3, rw3, m3, a3⟩ := s1.rw'.pushI z (by omega)
        have s2 : Ord w w3 g N (.slice u3 (ins.length + 1) c3) (ins ++ [z]) v2 ((ins ++ [z]).drop a) := by rw [← take_push ha]; exact s1.turnu rw3 m3 a3
        obtain ⟨is, his⟩ : ∃ is, is = ins ++ [z] := ⟨_, rfl⟩
        have hil : ins.length + 1 = is.length := by rw [his]; simp
        rw [← his, hil] at s2
        rw [hil] at r3
        have hc2 : w2.cell? ⟨b, o + i, none⟩ = some (.int .i64 z) := ((s1.hb.cell (p := ⟨b, o + i, none⟩) hb1).trans (S.out.hb.cell (p := ⟨b, o + i, none⟩) hb1).symm).trans hc1
        have R3 := Lib.hid r3
        have S2 := Lib.hid s2
        have hins : a ≤ is.length := by omega
        have hinN : is.length - a ≤ N := by omega
        have hii2 : is.length ≤ i + 1 := by omega
        clear r3 s1 s2 rw3 m3 a3 hrg hm hanew S HIR his hil hii ha haN hroom
        by_cases hp : i < p.length
        · have hpi : p[i]? = some (p[i]'hp) := List.getElem?_eq_getElem hp
          generalize p[i]'hp = pz at hpi
          obtain ⟨p0, p1, pb, po, rfl, hpb, hpc⟩ := Y.out i pz hpi
          obtain ⟨m, hand, hm3⟩ := and3 pz p0 p1
          have hpc' := (S2.out.hb.cell (p := ⟨pb, po + i, none⟩) hpb).trans hpc
          clear hpi hpc
          go_wp2_with (at_builtin; refine wpList_appK 29 rfl (.tmp 47) (.tmp 52) rfl rfl rfl rfl R3.out ?_)
          go_loopg [10, 13, 14, 15] m (fun r va vk _ _ wr => ∃ (kk a : Nat) (v : Value), r + kk = m ∧ va = .int .i64 a ∧ vk = .int .i64 kk ∧ a ≤ (is).length ∧ (is).length - a ≤ N ∧ Ord w wr g N (.slice u3 (is.length) c3) (is) v ((is).drop a))
          case atStart => exact ⟨0, a, _, by omega, rfl, rfl, hins, hinN, S2.out⟩
          case round =>
            clear S2 hins hinN
            obtain ⟨kk, a, v, hr1, rfl, rfl, ha, haN, hs⟩ := hrel
            have S := Lib.hid hs
            have hL : ((is).drop a).length = (is).length - a := by simp
            have HL := Lib.hid hL
            clear hs hL
            by_cases hlt : kk < m
            · by_cases hal : a < (is).length
              · have hxa : (is)[a]? = some ((is)[a]'hal) := List.getElem?_eq_getElem hal
                generalize (is)[a]'hal = xa at hxa
                have hx0 : (((is).drop a).map (Value.int .i64))[0]? = some (.int .i64 xa) := by simp [hxa]
                have HX := Lib.hid hxa
                have hlt2 : (a : Int) < (is.length : Int) := by omega
                clear hxa
                go_wp2_with fail
                refine (popI S.out.rg xa hx0).mono ?_
                rintro e w5 ⟨v5, rfl, hrg, hm, hanew⟩
                have hL5 : ((is).drop a).length - 1 = ((is).drop (a + 1)).length := by simp; omega
                have s5 : Ord w w5 g N (.slice u3 (is.length) c3) (is) v5 ((is).drop (a + 1)) := S.out.turn (by have := hrg; rw [hL5] at this; simpa using this) hm hanew
                obtain ⟨b5, o5, hb5, hcell5, _⟩ := Rw.cell (x := u3) (c := c3) (j := a) (u := .int .i64 xa) s5.rw' (by simp [HX.out])
                have S5 := Lib.hid s5
                subst hb5
                clear s5 hrg hm hanew S hx0 hL5
                go_wp2_with fail
                go_roundg (m - (kk + 1))
                case measure => omega
                case rel => exact ⟨kk + 1, a + 1, v5, by omega, by go_num, by go_num, by omega, by omega, S5.out⟩
              · obtain hae : a = (is).length := by omega
                have hR : ((is).drop a) = [] := by simp [hae]
                have h0 : RG 97 3 1 wr g N v 0 (((is).drop a).map (Value.int .i64)) := by have := S.out.rg; rw [hR] at this ⊢; exact this
                have HAE := Lib.hid hae
                have hlt2 : ¬ (a : Int) < (is.length : Int) := by omega
                clear hR hae
                go_wp2_with fail
                refine (popI_no h0).mono ?_
                rintro e w5 ⟨rfl, hb5⟩
                have S5 := Lib.hid (S.out.below hb5)
                clear hb5 S h0
                go_wp2_with fail
                go_roundg (m - (kk + 1))
                case measure => omega
                case rel => exact ⟨kk + 1, a, v, by omega, rfl, by go_num, by omega, by omega, S5.out⟩
            · have hkm : kk = m := by omega
              have hLI : ((((is).drop a).length : Nat) : Int) = (is.length : Int) - (a : Int) := by rw [HL.out]; omega
              have HLI := Lib.hid hLI
              have hq1 : 0 ≤ (is.length : Int) - (a : Int) := by omega
              have hq2 : (is.length : Int) - (a : Int) ≤ 1000 := by omega
              have hq3 : ¬ (N : Int) < (is.length : Int) - (a : Int) := by omega
              clear hkm hLI
              go_wp2_with (go_at_call 15; refine (lenI S.out.rg).mono ?_; rintro e w' ⟨rfl, rfl⟩; rw [HLI.out])
              go_roundg (l.length - (i + 1))
              case measure => omega
              case rel => exact ⟨i + 1, a, c3, u3, is, v, by omega, by go_num, rfl, rfl, ha, haN, hii2, S.out⟩
        · go_wp2_with (at_builtin; refine wpList_appK 29 rfl (.tmp 47) (.tmp 52) rfl rfl rfl rfl R3.out ?_)
          go_loopg [10, 13, 14, 15] 0 (fun r va vk _ _ wr => ∃ (kk a : Nat) (v : Value), r + kk = 0 ∧ va = .int .i64 a ∧ vk = .int .i64 kk ∧ a ≤ (is).length ∧ (is).length - a ≤ N ∧ Ord w wr g N (.slice u3 (is.length) c3) (is) v ((is).drop a))
          case atStart => exact ⟨0, a, _, by omega, rfl, rfl, hins, hinN, S2.out⟩
          case round =>
            clear S2 hins hinN
            obtain ⟨kk, a, v, hr1, rfl, rfl, ha, haN, hs⟩ := hrel
            have S := Lib.hid hs
            have hL : ((is).drop a).length = (is).length - a := by simp
            have HL := Lib.hid hL
            clear hs hL
            have hkm : kk = 0 := by omega
            have hLI : ((((is).drop a).length : Nat) : Int) = (is.length : Int) - (a : Int) := by rw [HL.out]; omega
            have HLI := Lib.hid hLI
            have hq1 : 0 ≤ (is.length : Int) - (a : Int) := by omega
            have hq2 : (is.length : Int) - (a : Int) ≤ 1000 := by omega
            have hq3 : ¬ (N : Int) < (is.length : Int) - (a : Int) := by omega
            clear hkm hLI
            go_wp2_with (go_at_call 15; refine (lenI S.out.rg).mono ?_; rintro e w' ⟨rfl, rfl⟩; rw [HLI.out])
            go_roundg (l.length - (i + 1))
            case measure => omega
            case rel => exact ⟨i + 1, a, c3, u3, is, v, by omega, by go_num, rfl, rfl, ha, haN, hii2, S.out⟩
      · have S2 := S
        have hins := ha
        have hinN := haN
        have hii2 : ins.length ≤ i + 1 := by omega
        go_wp2_with fail
        refine (pushI_no S.out.rg (by rw [HIR.out]; omega) _).mono ?_
        rintro e w2 ⟨rfl, rfl⟩
        clear S HIR hii ha haN hroom
        by_cases hp : i < p.length
        · have hpi : p[i]? = some (p[i]'hp) := List.getElem?_eq_getElem hp
          generalize p[i]'hp = pz at hpi
          obtain ⟨p0, p1, pb, po, rfl, hpb, hpc⟩ := Y.out i pz hpi
          obtain ⟨m, hand, hm3⟩ := and3 pz p0 p1
          have hpc' := (S2.out.hb.cell (p := ⟨pb, po + i, none⟩) hpb).trans hpc
          clear hpi hpc
          go_wp2_with fail
          go_loopg [10, 13, 14, 15] m (fun r va vk _ _ wr => ∃ (kk a : Nat) (v : Value), r + kk = m ∧ va = .int .i64 a ∧ vk = .int .i64 kk ∧ a ≤ (ins).length ∧ (ins).length - a ≤ N ∧ Ord w wr g N (.slice ux (ins.length) cq) (ins) v ((ins).drop a))
          case atStart => exact ⟨0, a, _, by omega, rfl, rfl, hins, hinN, S2.out⟩
          case round =>
            clear S2 hins hinN
            obtain ⟨kk, a, v, hr1, rfl, rfl, ha, haN, hs⟩ := hrel
            have S := Lib.hid hs
            have hL : ((ins).drop a).length = (ins).length - a := by simp
            have HL := Lib.hid hL
            clear hs hL
            by_cases hlt : kk < m
            · by_cases hal : a < (ins).length
              · have hxa : (ins)[a]? = some ((ins)[a]'hal) := List.getElem?_eq_getElem hal
                generalize (ins)[a]'hal = xa at hxa
                have hx0 : (((ins).drop a).map (Value.int .i64))[0]? = some (.int .i64 xa) := by simp [hxa]
                have HX := Lib.hid hxa
                have hlt2 : (a : Int) < (ins.length : Int) := by omega
                clear hxa
                go_wp2_with fail
                refine (popI S.out.rg xa hx0).mono ?_
                rintro e w5 ⟨v5, rfl, hrg, hm, hanew⟩
                have hL5 : ((ins).drop a).length - 1 = ((ins).drop (a + 1)).length := by simp; omega
                have s5 : Ord w w5 g N (.slice ux (ins.length) cq) (ins) v5 ((ins).drop (a + 1)) := S.out.turn (by have := hrg; rw [hL5] at this; simpa using this) hm hanew
                obtain ⟨b5, o5, hb5, hcell5, _⟩ := Rw.cell (x := ux) (c := cq) (j := a) (u := .int .i64 xa) s5.rw' (by simp [HX.out])
                have S5 := Lib.hid s5
                subst hb5
                clear s5 hrg hm hanew S hx0 hL5
                go_wp2_with fail
                go_roundg (m - (kk + 1))
                case measure => omega
                case rel => exact ⟨kk + 1, a + 1, v5, by omega, by go_num, by go_num, by omega, by omega, S5.out⟩
              · obtain hae : a = (ins).length := by omega
                have hR : ((ins).drop a) = [] := by simp [hae]
                have h0 : RG 97 3 1 wr g N v 0 (((ins).drop a).map (Value.int .i64)) := by have := S.out.rg; rw [hR] at this ⊢; exact this
                have HAE := Lib.hid hae
                have hlt2 : ¬ (a : Int) < (ins.length : Int) := by omega
                clear hR hae
                go_wp2_with fail
                refine (popI_no h0).mono ?_
                rintro e w5 ⟨rfl, hb5⟩
                have S5 := Lib.hid (S.out.below hb5)
                clear hb5 S h0
                go_wp2_with fail
                go_roundg (m - (kk + 1))
                case measure => omega
                case rel => exact ⟨kk + 1, a, v, by omega, rfl, by go_num, by omega, by omega, S5.out⟩
            · have hkm : kk = m := by omega
              have hLI : ((((ins).drop a).length : Nat) : Int) = (ins.length : Int) - (a : Int) := by rw [HL.out]; omega
              have HLI := Lib.hid hLI
              have hq1 : 0 ≤ (ins.length : Int) - (a : Int) := by omega
              have hq2 : (ins.length : Int) - (a : Int) ≤ 1000 := by omega
              have hq3 : ¬ (N : Int) < (ins.length : Int) - (a : Int) := by omega
              clear hkm hLI
              go_wp2_with (go_at_call 15; refine (lenI S.out.rg).mono ?_; rintro e w' ⟨rfl, rfl⟩; rw [HLI.out])
              go_roundg (l.length - (i + 1))
              case measure => omega
              case rel => exact ⟨i + 1, a, cq, ux, ins, v, by omega, by go_num, rfl, rfl, ha, haN, hii2, S.out⟩
        · go_wp2_with fail
          go_loopg [10, 13, 14, 15] 0 (fun r va vk _ _ wr => ∃ (kk a : Nat) (v : Value), r + kk = 0 ∧ va = .int .i64 a ∧ vk = .int .i64 kk ∧ a ≤ (ins).length ∧ (ins).length - a ≤ N ∧ Ord w wr g N (.slice ux (ins.length) cq) (ins) v ((ins).drop a))
          case atStart => exact ⟨0, a, _, by omega, rfl, rfl, hins, hinN, S2.out⟩
          case round =>
            clear S2 hins hinN
            obtain ⟨kk, a, v, hr1, rfl, rfl, ha, haN, hs⟩ := hrel
            have S := Lib.hid hs
            have hL : ((ins).drop a).length = (ins).length - a := by simp
            have HL := Lib.hid hL
            clear hs hL
            have hkm : kk = 0 := by omega
            have hLI : ((((ins).drop a).length : Nat) : Int) = (ins.length : Int) - (a : Int) := by rw [HL.out]; omega
            have HLI := Lib.hid hLI
            have hq1 : 0 ≤ (ins.length : Int) - (a : Int) := by omega
            have hq2 : (ins.length : Int) - (a : Int) ≤ 1000 := by omega
            have hq3 : ¬ (N : Int) < (ins.length : Int) - (a : Int) := by omega
            clear hkm hLI
            go_wp2_with (go_at_call 15; refine (lenI S.out.rg).mono ?_; rintro e w' ⟨rfl, rfl⟩; rw [HLI.out])
            go_roundg (l.length - (i + 1))
            case measure => omega
            case rel => exact ⟨i + 1, a, cq, ux, ins, v, by omega, by go_num, rfl, rfl, ha, haN, hii2, S.out⟩
    · have S := Lib.hid hs
      have HG2 := HG.out
      clear hs
      go_wp2_with (go_at_call 12; refine (alive _).mono ?_; rintro e w4 ⟨rfl, hb⟩; have HB := Lib.hid (S.out.hb.trans (hb.mono S.out.hb.size)); clear hb)
      go_ret
      exact ⟨rfl, HB.out⟩

theorem walk (n : Int) (lv pv : Value) (l p : List Int) (w : World) (h : SI w lv l) (k : SB w pv p) :
    Calls Try.prog 5 #[.int .i64 n, lv, pv] w fun e w' => e = .returned (.bool true) ∧ Below w.heap.size w w' := by
  by_cases hg : n < 1 ∨ 50 < n ∨ 200 < l.length
  · obtain ⟨x, c, rfl, hx1, hx2, hx3⟩ := h
    obtain ⟨y, d, rfl, hy1, hy2, hy3⟩ := k
    unfold maxLen at hx2 hy2
    exact walk_out n x y _ c _ d (by omega) hg w
  · obtain ⟨N, rfl⟩ : ∃ N : Nat, n = N := ⟨n.toNat, by omega⟩
    exact walk_in N (by omega) (by omega) lv pv l p (by omega) w h k

set_option maxRecDepth 100000 in
theorem lifted (os : Os) (started : os.Started) (H : Type) (enc : TypeId × Value → H) :
    ReturnsInHanded {} Try.checked os 5 .any (Rows.ringOrderSpec.pre6 enc Try.prog Try.f5 Rows.ringOrderRow.domain false) (Rows.ringOrderSpec.post enc Try.prog Try.f5 false true false false) := by
  refine returnsInHanded_of_change (C := Try.checked) own started (by kernel_rfl) Try.func5
    (ChangeSpec.witness6 (enc := enc) (C := Try.checked) false ⟨#[], #[.int .i64 0, .slice none 0 0, .slice none 0 0], []⟩ 8 (by kernel_rfl) (by kernel_rfl) (by kernel_rfl) (by kernel_rfl)) ?_
  intro W base args ds gs before hval0 hW hcnd _
  have hval : ∀ (j : Nat) t v, Try.f5.params[j]? = some t → args[j]? = some v → Value.okWide Try.prog W .any base t v := hval0
  have hW' := hW
  obtain ⟨p, q, hA0, hV, rfl, hfz, hnd⟩ := hW
  have hA : DataW.TrodAll enc Try.prog W 0 (fun _ => true) true Try.f5.params.toList args.toList ds p := hA0
  rw [Try.params5] at hA hval
  obtain ⟨v0, vs0, d0, ds0, p0, q0, hargs, rfl, rfl, h0, r0⟩ := trodAll_cons hA
  obtain ⟨v1, vs1, d1, ds1, p1, q1, rfl, rfl, rfl, h1, r1⟩ := trodAll_cons r0
  obtain ⟨v2, vs2, d2, ds2, p2, q2, rfl, rfl, rfl, h2, r2⟩ := trodAll_cons r1
  obtain ⟨rfl, rfl, rfl⟩ := trodAll_nil r2
  obtain rfl : args = #[v0, v1, v2] := by cases args; simp_all
  obtain ⟨rfl, rfl⟩ := trodVars_none hV
  obtain ⟨a0, rfl, rfl, rfl, w0⟩ := open_int Try.underlying3 (hval 0 3 v0 rfl rfl) h0
  have b0 := bounds_i64 w0
  obtain ⟨x1, s1⟩ := open_si (hval 1 29 v1 rfl rfl) h1
  obtain ⟨x2, s2⟩ := open_sb (hval 2 49 v2 rfl rfl) h2
  refine (walk a0 v1 v2 x1 x2 W s1 s2).mono fun e W' ⟨he, hb⟩ => ?_
  subst he
  exact ⟨_, rfl, law_post hW' rfl rfl rfl (by kernel_rfl) hb⟩

/-- The statement. -/
theorem proved : Rows.RingOrderSaid :=
  OpenClaim.holds_of_wide 5 Try.f5 rfl rfl rfl rfl rfl rfl rfl ⟨rfl, rfl, rfl, rfl, rfl⟩ rfl rfl rfl rfl rfl (by kernel_rfl) Try.func5 (by kernel_rfl)
    (of_decide_eq_true (by kernel_rfl)) (by unfold Func.isWrapper; first | (rw [if_pos (by decide +kernel)]; kernel_rfl) | (rw [if_neg (by decide +kernel)]; exact ⟨rfl, rfl⟩))
    (fun os started H enc _ => lifted os started H enc)
#print axioms proved
end Go.Proofs.Ytfdihgahegfamaa.ringOrder
