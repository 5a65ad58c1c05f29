/-
  Contracts of the document's own functions of package sha: a block's sixty-four numbers. Condition: the block has 64 bytes.
-/
import Derived.Test.YtboaceabimlodaaDoorRefA
import Derived.Test.YtboaceabimlodaaDoorSums
import Derived.Deep.RegionLaw
import Derived.IntWalk
namespace Go.Proofs.YtboaceabimlodaaDoor
open Go.RowKit
theorem info39 : (Tryd.prog.info? 56).map (fun i => (i.zero, i.size, i.bytes)) = some (some (.int .u32 0), 1, 4) := by kernel_rfl
theorem size62 (W : World) : (sizeOf (Tryd.prog.elem 23)).run Tryd.prog W = .ok 1 W := by kernel_rfl
/-- 'b[l:h]' of a slice of bytes. -/
theorem sl_lh (b o n cap l h : Nat) (zl zh : Int) (hzl : zl = l) (hzh : zh = h) (h1 : l ≤ h) (h2 : h ≤ cap) (hc : l < cap) (W : World) : (Instr.slice 23 (.slice (some ⟨b, o, none⟩) n cap) (some (.int .i64 zl)) (some (.int .i64 zh)) none).run Tryd.prog W =
    .ok (.slice (some ⟨b, o + l, none⟩) (h - l) (cap - l)) W := by
  subst hzl hzh
  rw [run_slice_lh W 23 (some ⟨b, o, none⟩) n cap (by kernel_rfl) .i64 .i64 l h (by omega) (by omega) (by omega), size62]
  simp only [Result.andThen, sliced, Int.toNat_natCast, Nat.mul_one]
  have e : cap ≠ l := by omega
  simp [e, addr_add]
theorem sees_part {w : World} {b o : Nat} {xs : List Int} (hb : Byt xs) (hc : ∀ i, i < xs.length → w.cell? ⟨b, o + i, none⟩ = some (.int .u8 (nth xs i))) (l n : Nat) (h : l + n ≤ xs.length) (hn : 0 < n) (cap : Nat) (hcap : n ≤ cap) (hcm : cap ≤ maxLen) :
    Sees w (.slice (some ⟨b, o + l, none⟩) n cap) ((xs.drop l).take n) := by
  have hl : ((xs.drop l).take n).length = n := by simp; omega
  refine ⟨(hb.drop l).take n, .inr (.inr ⟨b, o + l, cap, by rw [hl], fun e => ?_, by omega, hcm, fun i hi => ?_⟩)⟩
  · rw [e] at hl; simp at hl; omega
  · rw [hl] at hi
    rw [Nat.add_assoc, hc (l + i) (by omega)]
    simp [nth, List.getD, List.getElem?_take_of_lt hi, List.getElem?_drop]
/-- An append whose run is known, in a region that draws. -/
theorem step_app_run {P : Program} {ops : Array Oper} {o : Oper} {a : Act} {w : World} {K : Act → World → Prop} {Q : Exit → Act → World → Prop} {E : Prop} (hgd : o.guard = none) (d s : Operand) (T : TypeId)
    (ho : o.op = .call { callee := .builtin .append, args := #[d, s], argTypes := #[T, T] }) (hty : o.type = T) {x y v : Value} {w' : World} (hd : a.eval d = x) (hs : a.eval s = y) (hr : (Builtin.append_ #[T, T] T #[x, y]).run P w = .ok v w')
    (hK : K (a.put o.dst v) w') : if Region.wanted o (yielded ops a.tmps) = true then Oper.wp P o a w K Q else E := by
  have hw : Region.wanted o (yielded ops a.tmps) = true := by simp [Region.wanted, hgd]
  rw [if_pos hw]
  unfold Oper.wp
  simp only [execOp, ho, hty, resolve, invoke, builtin, Sem.run_bind, Sem.run_pure, Result.andThen_ok, List.map_toArray, List.map_cons, List.map_nil, hd, hs, hr]
  exact hK
theorem add4 (a b c d : Int) : IntKind.u32.wrap (IntKind.u32.wrap (IntKind.u32.wrap (a + b) + c) + d) = (a + b + c + d) % 4294967296 := by
  simp only [IntKind.wrap_u32]; omega
/-- New numbers of 32 digits that a call hands out. -/
def WordsP (w : World) (xs : List Int) (e : Ending) (w' : World) : Prop :=
  ∃ q cap, e = .returned (.slice q xs.length cap) ∧ OwnK .u32 56 w' w.heap.size (.slice q xs.length cap) xs ∧ Below w.heap.size w w'
set_option maxRecDepth 100000 in
set_option maxHeartbeats 4000000 in
theorem spread (b o cap : Nat) (B : List Int) (hB : B.length = 64) (hb : Byt B) (hcap : 64 ≤ cap) (hcm : cap ≤ maxLen) (w : World) (hc : ∀ i, i < 64 → w.cell? ⟨b, o + i, none⟩ = some (.int .u8 (nth B i))) :
    Calls Tryd.prog 28 #[.slice (some ⟨b, o, none⟩) 64 cap] w (WordsP w (wl B 64)) := by
  have hblk : b < w.heap.size := World.block_lt_of_cell? w _ (hc 0 (by omega))
  have HC := Lib.hid hc
  have HCAP := Lib.hid (And.intro hcap hcm)
  have HBB := Lib.hid (And.intro hB hb)
  clear hc hcap hcm hB hb
  go_enter Tryd.func28, Tryd.ntmps28
  go_wp2_with fail
  go_loopw [3, 4] (fun v vi wr => ∃ (k : Nat) (q : Option Addr) (c : Nat), k ≤ 16 ∧ vi = .int .i64 k ∧ v = .slice q k c ∧ OwnK .u32 56 wr w.heap.size (.slice q k c) (wl B k) ∧ Below w.heap.size w wr) (fun _ vi _ => 16 - (intOf vi).toNat)
  case atStart => exact ⟨0, none, 0, by omega, rfl, rfl, ownk_nil _ _ _ _, Below.refl _ _⟩
  case round =>
    obtain ⟨k, q, c, hk, rfl, rfl, ho, hbel⟩ := hrel
    by_cases hlt : k < 16
    · have hc' : ∀ i, i < B.length → wr.cell? ⟨b, o + i, none⟩ = some (.int .u8 (nth B i)) := fun i hi => by rw [hbel.cell (p := ⟨b, o + i, none⟩) hblk]; exact HC.out i (by rw [HBB.out.1] at hi; exact hi)
      have S := sees_part HBB.out.2 hc' (4 * k) 4 (by rw [HBB.out.1]; omega) (by omega) (cap - 4 * k) (by have := HCAP.out.1; omega) (by have := HCAP.out.2; omega)
      have hsl : ∀ W, (Instr.slice 23 (.slice (some ⟨b, o, none⟩) 64 cap) (some (.int .i64 (4 * (k : Int)))) (some (.int .i64 (4 * (k : Int) + 4))) none).run Tryd.prog W = .ok (.slice (some ⟨b, o + 4 * k, none⟩) 4 (cap - 4 * k)) W := fun W => by
        have := sl_lh b o 64 cap (4 * k) (4 * k + 4) (4 * (k : Int)) (4 * (k : Int) + 4) (by omega) (by omega) (by omega) (by have := HCAP.out.1; omega) (by have := HCAP.out.1; omega) W
        rw [show 4 * k + 4 - 4 * k = 4 by omega] at this; exact this
      have hnum := numI_part B (4 * k) 4 HBB.out.2 (by rw [HBB.out.1]; omega)
      have NW : Hid (nw B (wl B k) k = numI ((B.drop (4 * k)).take 4)) := if_pos hlt
      have hn0 : 0 ≤ numI ((B.drop (4 * k)).take 4) := hnum.1
      have hn1 : numI ((B.drop (4 * k)).take 4) ≤ 4294967295 := by have := hnum.2; omega
      obtain ⟨q1, c1, w1, hr, ho1, hb1, _⟩ := OwnK.push Tryd.underlying50 info39 (by omega) ho (by rw [wl_len]; omega) hbel.size (nw B (wl B k) k)
      rw [NW.out] at hr
      rw [wl_len] at hr ho1
      have NUM := Lib.hid (number _ _ (by simp; omega) wr S)
      have HR := Lib.hid hr
      have HO : Hid (OwnK .u32 56 w1 w.heap.size (.slice q1 (k + 1) c1) (wl B (k + 1))) := ho1
      have HB := Lib.hid (hbel.trans hb1)
      clear hr ho1 hb1 ho hbel S hnum hc'
      generalize numI ((B.drop (4 * k)).take 4) = x at *
      go_wp2_with fail
      refine NUM.out.mono ?_
      rintro e w' ⟨rfl, rfl⟩
      clear hsl
      go_wp2_with (at_builtin; refine wpList_appK 50 rfl _ _ rfl rfl rfl rfl HR.out ?_)
      go_roundw
      case rel => exact ⟨k + 1, q1, c1, by omega, by go_num, rfl, HO.out, HB.out⟩
      case measure => simp [intOf]; omega
    · have hk16 : 16 ≤ k := by omega
      have HO : Hid (∃ q' c', Value.slice q k c = Value.slice q' (0 + 16) c' ∧ OwnK .u32 56 wr w.heap.size (.slice q' (0 + 16) c') (wl B (0 + 16))) := by
        obtain rfl : k = 16 := by omega
        exact ⟨q, c, rfl, ho⟩
      have HB := Lib.hid hbel
      clear ho hbel
      go_wp2_with fail
      go_loopw [3, 5, 6, 7] (fun v vi _ _ wr => ∃ (n : Nat) (q : Option Addr) (c : Nat), n ≤ 48 ∧ vi = .int .i64 ((n : Int) + 16) ∧ v = .slice q (n + 16) c ∧ OwnK .u32 56 wr w.heap.size (.slice q (n + 16) c) (wl B (n + 16)) ∧ Below w.heap.size w wr) (fun _ vi _ _ _ => 64 - (intOf vi).toNat)
      case atStart =>
        obtain rfl : k = 16 := by omega
        obtain ⟨_, _, e, h⟩ := HO.out
        cases e
        exact ⟨0, q, c, by omega, rfl, rfl, h, HB.out⟩
      case round =>
        clear HO HB
        obtain ⟨n, q, c, hn, rfl, rfl, ho, hbel⟩ := hrel
        by_cases hlt : n < 48
        · obtain ⟨g, cap', hv, _, _, _, hcl⟩ := ho.cells (by rw [wl_len]; omega)
          rw [wl_len] at hv hcl
          simp only [Value.slice.injEq] at hv
          obtain ⟨rfl, _, rfl⟩ := hv
          have x0 := hcl n (by omega)
          have x1 := hcl (n + 1) (by omega)
          have x9 := hcl (n + 9) (by omega)
          have x14 := hcl (n + 14) (by omega)
          have hu := wl_u32 B HBB.out.1 HBB.out.2 (n + 16)
          have b0 := hu.nth n
          have b1 := hu.nth (n + 1)
          have b9 := hu.nth (n + 9)
          have b14 := hu.nth (n + 14)
          have NW : Hid (nw B (wl B (n + 16)) (n + 16) = (nth (wl B (n + 16)) n + sig0 (nth (wl B (n + 16)) (n + 1)) + nth (wl B (n + 16)) (n + 9) + sig1 (nth (wl B (n + 16)) (n + 14))) % 4294967296) := by
            show _ = _
            unfold nw
            rw [if_neg (by omega)]
            rfl
          have HO := Lib.hid ho
          have HB := Lib.hid hbel
          have W1 : wl B (n + 1 + 16) = wl B (n + 16) ++ [nw B (wl B (n + 16)) (n + 16)] := by rw [Nat.add_right_comm n 1 16]; rfl
          have HW1 := Lib.hid W1
          generalize nth (wl B (n + 16)) n = y0 at x0 b0 NW
          generalize nth (wl B (n + 16)) (n + 1) = y1 at x1 b1 NW
          generalize nth (wl B (n + 16)) (n + 9) = y9 at x9 b9 NW
          generalize nth (wl B (n + 16)) (n + 14) = y14 at x14 b14 NW
          obtain ⟨l0, h0⟩ := b0
          obtain ⟨l1, h1⟩ := b1
          obtain ⟨l9, h9⟩ := b9
          obtain ⟨l14, h14⟩ := b14
          clear ho hbel hu W1 hcl
          go_wp2_with fail
          go_quiet ((first | (go_at_call 34; exact Calls.quiet_of_same (dturn _ l1 h1 _ (by decide) (by decide) _)) | (go_at_call 36; exact Calls.quiet_of_same (dmove3 _ l1 h1 _))))
          obtain ⟨W, hW⟩ : ∃ W, W = wr.drewN nq := ⟨_, rfl⟩
          rw [← hW]
          have x0 : W.cell? ⟨g, n, none⟩ = some (.int .u32 y0) := by rw [hW]; simpa using x0
          have x9 : W.cell? ⟨g, n + 9, none⟩ = some (.int .u32 y9) := by rw [hW]; simpa using x9
          have x14 : W.cell? ⟨g, n + 14, none⟩ = some (.int .u32 y14) := by rw [hW]; simpa using x14
          have HO : Hid (OwnK .u32 56 W w.heap.size (.slice (some ⟨g, 0, none⟩) (n + 16) c) (wl B (n + 16))) := by rw [hW]; exact HO.out
          have HB : Hid (Below w.heap.size w W) := by rw [hW]; exact HB.out.trans ⟨rfl, rfl, rfl, Nat.le_refl _, fun _ _ => rfl⟩
          clear hW x1
          have j0 : (0 : Int) ≤ (n : Int) + 16 - 2 := by omega
          have j1 : (n : Int) + 16 - 2 < (n : Int) + 16 := by omega
          have j2 : ((n : Int) + 16 - 2).toNat = n + 14 := by omega
          go_wp2_with fail
          go_quiet ((first | (go_at_call 34; exact Calls.quiet_of_same (dturn _ l14 h14 _ (by decide) (by decide) _)) | (go_at_call 36; exact Calls.quiet_of_same (dmove10 _ l14 h14 _))))
          obtain ⟨W2, hW⟩ : ∃ W2, W2 = W.drewN nq := ⟨_, rfl⟩
          rw [← hW]
          have x0 : W2.cell? ⟨g, n, none⟩ = some (.int .u32 y0) := by rw [hW]; simpa using x0
          have x9 : W2.cell? ⟨g, n + 9, none⟩ = some (.int .u32 y9) := by rw [hW]; simpa using x9
          have HO : Hid (OwnK .u32 56 W2 w.heap.size (.slice (some ⟨g, 0, none⟩) (n + 16) c) (wl B (n + 16))) := by rw [hW]; exact HO.out
          have HB : Hid (Below w.heap.size w W2) := by rw [hW]; exact HB.out.trans ⟨rfl, rfl, rfl, Nat.le_refl _, fun _ _ => rfl⟩
          clear hW x14 j0 j1 j2
          have NS : Hid (nw B (wl B (n + 16)) (n + 16) = (y0 + y9 + bits .xor .u32 (bits .xor .u32 (rot 7 y1) (rot 18 y1)) (y1 / 8) + bits .xor .u32 (bits .xor .u32 (rot 17 y14) (rot 19 y14)) (y14 / 1024)) % 4294967296) := by
            show _ = _
            rw [NW.out, Int.add_right_comm y0 (sig0 y1) y9]; rfl
          obtain ⟨s0, hs0⟩ : ∃ s, s = bits .xor .u32 (bits .xor .u32 (rot 7 y1) (rot 18 y1)) (y1 / 8) := ⟨_, rfl⟩
          obtain ⟨s1, hs1⟩ : ∃ s, s = bits .xor .u32 (bits .xor .u32 (rot 17 y14) (rot 19 y14)) (y14 / 1024) := ⟨_, rfl⟩
          rw [← hs0, ← hs1] at NS ⊢
          clear hs0 hs1 NW
          have e1 : IntKind.i64.wrap (n : Int) = n := IntWalk.i64_in _ (by omega)
          have e2 : IntKind.i64.wrap ((n : Int) + 16 - 7) = (n : Int) + 9 := by rw [IntWalk.i64_in _ (by omega)]; omega
          have j1 : (n : Int) < (n : Int) + 16 := by omega
          have k0 : (0 : Int) ≤ (n : Int) + 9 := by omega
          have k1 : (n : Int) + 9 < (n : Int) + 16 := by omega
          have k2 : ((n : Int) + 9).toNat = n + 9 := by omega
          have ho2 : OwnK .u32 56 W2.drew w.heap.size (.slice (some ⟨g, 0, none⟩) (n + 16) c) (wl B (n + 16)) := HO.out
          have hb2 : Below w.heap.size w W2.drew := HB.out.trans ⟨rfl, rfl, rfl, Nat.le_refl _, fun _ _ => rfl⟩
          obtain ⟨q1, c1, w1, hr, ho1, hb1, _⟩ := OwnK.push Tryd.underlying50 info39 (by omega) ho2 (by rw [wl_len]; omega) hb2.size (IntKind.u32.wrap (IntKind.u32.wrap (IntKind.u32.wrap (y0 + y9) + s0) + s1))
          rw [wl_len] at hr ho1
          rw [add4 y0 y9 s0 s1, ← NS.out, ← HW1.out] at ho1
          have HR := Lib.hid hr
          have HO1 := Lib.hid ho1
          have HB1 := Lib.hid (hb2.trans hb1)
          clear hr ho1 hb1 ho2 hb2 HO HB
          go_wp2_with fail
          go_region_law (refine step_app_run rfl (.tmp 68) (.tmp 84) 50 rfl rfl rfl rfl HR.out ?_)
          all_goals
            go_wp2_with fail
            go_roundw
            case rel => exact ⟨n + 1, q1, c1, by omega, by go_num, by rw [Nat.add_right_comm n 1 16], by rw [Nat.add_right_comm n 1 16] at *; exact HO1.out, HB1.out⟩
            case measure => simp [intOf]; omega
        · obtain rfl : n = 48 := by omega
          have HO := Lib.hid ho
          have HB := Lib.hid hbel
          clear ho hbel
          go_wp2_with fail
          go_ret
          unfold WordsP
          rw [wl_len]
          exact ⟨q, c, rfl, HO.out, HB.out⟩
end Go.Proofs.YtboaceabimlodaaDoor
