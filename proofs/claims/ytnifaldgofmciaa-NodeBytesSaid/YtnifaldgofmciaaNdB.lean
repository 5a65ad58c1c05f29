/-
  Contract of node.Right. Condition: the node's keys read as keys.
-/
import Derived.Test.YtnifaldgofmciaaNdA
namespace Go.Proofs.Ytnifaldgofmciaa
open Go.RowKit
/-- May a node be? -/
def rightB (leaf : Bool) (ks : List Int) (nv nq : Nat) : Bool :=
  decide ((if leaf then 1 else 2) ≤ ks.length ∧ ks.length ≤ (if leaf then 9 else 11) ∧ (if leaf then nv else nq) = ks.length ∧ (if leaf then nq else nv) = 0) && risesB ks
theorem cell_row {w : World} {g : Nat} {cs : Array Value} {t : TypeId} {fr : Nat × Nat} (h : w.heap[g]? = some (.cells cs t fr)) (i : Nat) : w.cell? ⟨g, i, none⟩ = cs[i]? := by
  simp [World.cell?, h]
set_option maxRecDepth 100000 in
set_option maxHeartbeats 8000000 in
theorem right (leaf : Bool) (K : Value) (ks : List Int) (xv xq : Option Addr) (nv cv nq cq : Nat) (w : World) (hK : KS w K ks) :
    Calls Try.prog 12 #[.agg #[.bool leaf, K, .slice xv nv cv, .slice xq nq cq]] w fun e w' => e = .returned (.bool (rightB leaf ks nv nq)) ∧ Below w.heap.size w w' := by
  obtain ⟨w1, hw1⟩ : ∃ w1, w1 = w.alloc (.cells #[.bool leaf, K, .slice xv nv cv, .slice xq nq cq] 26) := ⟨_, rfl⟩
  have b1 : Below w.heap.size w w1 := by rw [hw1]; exact (Below.refl _ _).alloc (Nat.le_refl _) _
  have e1 : w1.heap[w.heap.size]? = some (.cells #[.bool leaf, K, .slice xv nv cv, .slice xq nq cq] 26 (0, 0)) := by rw [hw1]; exact heap_alloc_new w _
  have LG1 : Hid (w.heap.size < w1.heap.size) := (Array.getElem?_eq_some_iff.1 e1).1
  have C0 : Hid (w1.cell? ⟨w.heap.size, 0, none⟩ = some (.bool leaf)) := (cell_row e1 0).trans rfl
  have C1 : Hid (w1.cell? ⟨w.heap.size, 1, none⟩ = some K) := (cell_row e1 1).trans rfl
  have C2 : Hid (w1.cell? ⟨w.heap.size, 2, none⟩ = some (.slice xv nv cv)) := (cell_row e1 2).trans rfl
  have C3 : Hid (w1.cell? ⟨w.heap.size, 3, none⟩ = some (.slice xq nq cq)) := (cell_row e1 3).trans rfl
  have RS := Lib.hid (fun (W : World) (hb : Below w1.heap.size w1 W) => rises K ks W ((hK.below b1).below hb))
  have B1 := Lib.hid b1
  have HW1 := Lib.hid hw1
  obtain ⟨_, hn2, xk, ck, hKf, _⟩ := hK
  obtain ⟨n, hn⟩ : ∃ n, n = ks.length := ⟨_, rfl⟩
  rw [← hn] at hKf hn2
  subst hKf
  have HN := Lib.hid hn
  clear hw1 b1 e1 hn
  cases leaf with
  | true =>
    by_cases h1 : (1 : Int) ≤ (n : Int)
    · by_cases h2 : (n : Int) ≤ (9 : Int)
      · by_cases h3 : nv = n
        · by_cases h4 : nq = 0
          · have FN : Hid (rightB true ks nv nq = risesB ks) := by
              show _ = _
              unfold rightB
              rw [← HN.out]
              simp
              intros
              omega
            subst h3
            subst h4
            go_enter Try.func12, Try.ntmps12
            go_wp2_with fail
            rw [← HW1.out]
            refine wp_region_held_drew (S := fun W => Below w1.heap.size w1 W) (by kernel_rfl) (Below.refl _ _).drew (fun hS => ?_)
            refine' wpAnyH_take (i := 0) ?h1x0la ?hsx0la ?hfx0la ?hrx0la ?hQx0la (Or.inl ⟨?hwx0la, ?hyx0la⟩) hS ?restx0la
            case h1x0la => (simp only [List.getElem?_toArray, List.getElem?_cons_zero]; rfl)
            case hsx0la | hfx0la | hrx0la => kernel_rfl
            case hQx0la => exact fun _ _ _ h => h
            case hwx0la => rfl
            case hyx0la =>
              intro W hW
              go_simp
              try with_reducible rfl
            simp only [Act.put, List.setIfInBounds_toArray, List.set_cons_succ, List.set_cons_zero]
            refine' wpAnyH_take (i := 1) ?h1x1la ?hsx1la ?hfx1la ?hrx1la ?hQx1la (Or.inl ⟨?hwx1la, ?hyx1la⟩) hS ?restx1la
            case h1x1la => (simp only [List.getElem?_toArray, List.getElem?_cons_succ, List.getElem?_cons_zero]; rfl)
            case hsx1la | hfx1la | hrx1la => kernel_rfl
            case hQx1la => exact fun _ _ _ h => h
            case hwx1la => rfl
            case hyx1la =>
              intro W hW
              have c3 := (hW.cell (p := ⟨w.heap.size, 3, none⟩) LG1.out).trans C3.out
              go_simp
              try with_reducible rfl
            simp only [Act.put, List.setIfInBounds_toArray, List.set_cons_succ, List.set_cons_zero]
            refine' wpAnyH_take (i := 2) ?h1x2la ?hsx2la ?hfx2la ?hrx2la ?hQx2la (Or.inl ⟨?hwx2la, ?hyx2la⟩) hS ?restx2la
            case h1x2la => (simp only [List.getElem?_toArray, List.getElem?_cons_succ, List.getElem?_cons_zero]; rfl)
            case hsx2la | hfx2la | hrx2la => kernel_rfl
            case hQx2la => exact fun _ _ _ h => h
            case hwx2la => rfl
            case hyx2la =>
              intro W hW
              go_simp
              try with_reducible rfl
            simp only [Act.put, List.setIfInBounds_toArray, List.set_cons_succ, List.set_cons_zero]
            refine' wpAnyH_take (i := 3) ?h1x3la ?hsx3la ?hfx3la ?hrx3la ?hQx3la (Or.inl ⟨?hwx3la, ?hyx3la⟩) hS ?restx3la
            case h1x3la => (simp only [List.getElem?_toArray, List.getElem?_cons_succ, List.getElem?_cons_zero]; rfl)
            case hsx3la | hfx3la | hrx3la => kernel_rfl
            case hQx3la => exact fun _ _ _ h => h
            case hwx3la => rfl
            case hyx3la =>
              intro W hW
              go_simp
              try with_reducible rfl
            simp only [Act.put, List.setIfInBounds_toArray, List.set_cons_succ, List.set_cons_zero]
            refine' wpAnyH_take (i := 4) ?h1x4la ?hsx4la ?hfx4la ?hrx4la ?hQx4la (Or.inl ⟨?hwx4la, ?hyx4la⟩) hS ?restx4la
            case h1x4la => (simp only [List.getElem?_toArray, List.getElem?_cons_succ, List.getElem?_cons_zero]; rfl)
            case hsx4la | hfx4la | hrx4la => kernel_rfl
            case hQx4la => exact fun _ _ _ h => h
            case hwx4la => rfl
            case hyx4la =>
              intro W hW
              have c2 := (hW.cell (p := ⟨w.heap.size, 2, none⟩) LG1.out).trans C2.out
              go_simp
              try with_reducible rfl
            simp only [Act.put, List.setIfInBounds_toArray, List.set_cons_succ, List.set_cons_zero]
            refine' wpAnyH_take (i := 5) ?h1x5la ?hsx5la ?hfx5la ?hrx5la ?hQx5la (Or.inl ⟨?hwx5la, ?hyx5la⟩) hS ?restx5la
            case h1x5la => (simp only [List.getElem?_toArray, List.getElem?_cons_succ, List.getElem?_cons_zero]; rfl)
            case hsx5la | hfx5la | hrx5la => kernel_rfl
            case hQx5la => exact fun _ _ _ h => h
            case hwx5la => rfl
            case hyx5la =>
              intro W hW
              go_simp
              try with_reducible rfl
            simp only [Act.put, List.setIfInBounds_toArray, List.set_cons_succ, List.set_cons_zero]
            refine' wpAnyH_take (i := 6) ?h1x6la ?hsx6la ?hfx6la ?hrx6la ?hQx6la (Or.inl ⟨?hwx6la, ?hyx6la⟩) hS ?restx6la
            case h1x6la => (simp only [List.getElem?_toArray, List.getElem?_cons_succ, List.getElem?_cons_zero]; rfl)
            case hsx6la | hfx6la | hrx6la => kernel_rfl
            case hQx6la => exact fun _ _ _ h => h
            case hwx6la => rfl
            case hyx6la =>
              intro W hW
              go_simp
              try with_reducible rfl
            simp only [Act.put, List.setIfInBounds_toArray, List.set_cons_succ, List.set_cons_zero]
            refine' wpAnyH_take (i := 7) ?h1x7la ?hsx7la ?hfx7la ?hrx7la ?hQx7la (Or.inl ⟨?hwx7la, ?hyx7la⟩) hS ?restx7la
            case h1x7la => (simp only [List.getElem?_toArray, List.getElem?_cons_succ, List.getElem?_cons_zero]; rfl)
            case hsx7la | hfx7la | hrx7la => kernel_rfl
            case hQx7la => exact fun _ _ _ h => h
            case hwx7la => rfl
            case hyx7la =>
              intro W hW
              go_simp
              try with_reducible rfl
            simp only [Act.put, List.setIfInBounds_toArray, List.set_cons_succ, List.set_cons_zero]
            refine' wpAnyH_take (i := 8) ?h1x8la ?hsx8la ?hfx8la ?hrx8la ?hQx8la (Or.inl ⟨?hwx8la, ?hyx8la⟩) hS ?restx8la
            case h1x8la => (simp only [List.getElem?_toArray, List.getElem?_cons_succ, List.getElem?_cons_zero]; rfl)
            case hsx8la | hfx8la | hrx8la => kernel_rfl
            case hQx8la => exact fun _ _ _ h => h
            case hwx8la => rfl
            case hyx8la =>
              intro W hW
              go_simp
              try with_reducible rfl
            simp only [Act.put, List.setIfInBounds_toArray, List.set_cons_succ, List.set_cons_zero]
            refine' wpAnyH_take (i := 9) ?h1x9la ?hsx9la ?hfx9la ?hrx9la ?hQx9la (Or.inl ⟨?hwx9la, ?hyx9la⟩) hS ?restx9la
            case h1x9la => (simp only [List.getElem?_toArray, List.getElem?_cons_succ, List.getElem?_cons_zero]; rfl)
            case hsx9la | hfx9la | hrx9la => kernel_rfl
            case hQx9la => exact fun _ _ _ h => h
            case hwx9la => rfl
            case hyx9la =>
              intro W hW
              go_simp
              try with_reducible rfl
            simp only [Act.put, List.setIfInBounds_toArray, List.set_cons_succ, List.set_cons_zero]
            refine wpAnyH_done (by kernel_rfl) ?_ _
            obtain ⟨w2, hw2⟩ : ∃ w2, w2 = w1.drew := ⟨_, rfl⟩
            have B2 : Hid (Below w1.heap.size w1 w2) := by rw [hw2]; exact (Below.refl _ _).drew
            rw [← hw2]
            clear hS hw2
            have c0 := (B2.out.cell (p := ⟨w.heap.size, 0, none⟩) LG1.out).trans C0.out
            have c1 := (B2.out.cell (p := ⟨w.heap.size, 1, none⟩) LG1.out).trans C1.out
            go_wp2_with fail
            refine (RS.out _ B2.out).mono ?_
            rintro e w3 ⟨rfl, hb3⟩
            have B3 := Lib.hid (B2.out.trans (hb3.mono B2.out.size))
            clear hb3
            go_wp2_with fail
            go_ret
            exact ⟨by rw [FN.out]; rfl, B1.out.trans (B3.out.mono B1.out.size)⟩
          · have n4 : ¬ (nq : Int) = 0 := by omega
            have m4 : ((nq : Int) == 0) = false := by simpa using h4
            have FN : Hid (rightB true ks nv nq = false) := by
              show _ = _
              unfold rightB
              rw [← HN.out]
              simp
              intros
              omega
            clear h4
            subst h3
            go_enter Try.func12, Try.ntmps12
            go_wp2_with fail
            rw [← HW1.out]
            refine wp_region_held_drew (S := fun W => Below w1.heap.size w1 W) (by kernel_rfl) (Below.refl _ _).drew (fun hS => ?_)
            refine' wpAnyH_take (i := 0) ?h1x0lb ?hsx0lb ?hfx0lb ?hrx0lb ?hQx0lb (Or.inl ⟨?hwx0lb, ?hyx0lb⟩) hS ?restx0lb
            case h1x0lb => (simp only [List.getElem?_toArray, List.getElem?_cons_zero]; rfl)
            case hsx0lb | hfx0lb | hrx0lb => kernel_rfl
            case hQx0lb => exact fun _ _ _ h => h
            case hwx0lb => rfl
            case hyx0lb =>
              intro W hW
              go_simp
              try with_reducible rfl
            simp only [Act.put, List.setIfInBounds_toArray, List.set_cons_succ, List.set_cons_zero]
            refine' wpAnyH_take (i := 1) ?h1x1lb ?hsx1lb ?hfx1lb ?hrx1lb ?hQx1lb (Or.inl ⟨?hwx1lb, ?hyx1lb⟩) hS ?restx1lb
            case h1x1lb => (simp only [List.getElem?_toArray, List.getElem?_cons_succ, List.getElem?_cons_zero]; rfl)
            case hsx1lb | hfx1lb | hrx1lb => kernel_rfl
            case hQx1lb => exact fun _ _ _ h => h
            case hwx1lb => rfl
            case hyx1lb =>
              intro W hW
              have c3 := (hW.cell (p := ⟨w.heap.size, 3, none⟩) LG1.out).trans C3.out
              go_simp
              try with_reducible rfl
            simp only [Act.put, List.setIfInBounds_toArray, List.set_cons_succ, List.set_cons_zero]
            refine' wpAnyH_take (i := 2) ?h1x2lb ?hsx2lb ?hfx2lb ?hrx2lb ?hQx2lb (Or.inl ⟨?hwx2lb, ?hyx2lb⟩) hS ?restx2lb
            case h1x2lb => (simp only [List.getElem?_toArray, List.getElem?_cons_succ, List.getElem?_cons_zero]; rfl)
            case hsx2lb | hfx2lb | hrx2lb => kernel_rfl
            case hQx2lb => exact fun _ _ _ h => h
            case hwx2lb => rfl
            case hyx2lb =>
              intro W hW
              go_simp
              try with_reducible rfl
            simp only [Act.put, List.setIfInBounds_toArray, List.set_cons_succ, List.set_cons_zero]
            refine' wpAnyH_take (i := 3) ?h1x3lb ?hsx3lb ?hfx3lb ?hrx3lb ?hQx3lb (Or.inl ⟨?hwx3lb, ?hyx3lb⟩) hS ?restx3lb
            case h1x3lb => (simp only [List.getElem?_toArray, List.getElem?_cons_succ, List.getElem?_cons_zero]; rfl)
            case hsx3lb | hfx3lb | hrx3lb => kernel_rfl
            case hQx3lb => exact fun _ _ _ h => h
            case hwx3lb => rfl
            case hyx3lb =>
              intro W hW
              go_simp
              try with_reducible rfl
            simp only [Act.put, List.setIfInBounds_toArray, List.set_cons_succ, List.set_cons_zero]
            refine' wpAnyH_take (i := 4) ?h1x4lb ?hsx4lb ?hfx4lb ?hrx4lb ?hQx4lb (Or.inl ⟨?hwx4lb, ?hyx4lb⟩) hS ?restx4lb
            case h1x4lb => (simp only [List.getElem?_toArray, List.getElem?_cons_succ, List.getElem?_cons_zero]; rfl)
            case hsx4lb | hfx4lb | hrx4lb => kernel_rfl
            case hQx4lb => exact fun _ _ _ h => h
            case hwx4lb => rfl
            case hyx4lb =>
              intro W hW
              have c2 := (hW.cell (p := ⟨w.heap.size, 2, none⟩) LG1.out).trans C2.out
              go_simp
              try with_reducible rfl
            simp only [Act.put, List.setIfInBounds_toArray, List.set_cons_succ, List.set_cons_zero]
            refine' wpAnyH_take (i := 5) ?h1x5lb ?hsx5lb ?hfx5lb ?hrx5lb ?hQx5lb (Or.inl ⟨?hwx5lb, ?hyx5lb⟩) hS ?restx5lb
            case h1x5lb => (simp only [List.getElem?_toArray, List.getElem?_cons_succ, List.getElem?_cons_zero]; rfl)
            case hsx5lb | hfx5lb | hrx5lb => kernel_rfl
            case hQx5lb => exact fun _ _ _ h => h
            case hwx5lb => rfl
            case hyx5lb =>
              intro W hW
              go_simp
              try with_reducible rfl
            simp only [Act.put, List.setIfInBounds_toArray, List.set_cons_succ, List.set_cons_zero]
            refine' wpAnyH_take (i := 6) ?h1x6lb ?hsx6lb ?hfx6lb ?hrx6lb ?hQx6lb (Or.inl ⟨?hwx6lb, ?hyx6lb⟩) hS ?restx6lb
            case h1x6lb => (simp only [List.getElem?_toArray, List.getElem?_cons_succ, List.getElem?_cons_zero]; rfl)
            case hsx6lb | hfx6lb | hrx6lb => kernel_rfl
            case hQx6lb => exact fun _ _ _ h => h
            case hwx6lb => rfl
            case hyx6lb =>
              intro W hW
              go_simp
              try with_reducible rfl
            simp only [Act.put, List.setIfInBounds_toArray, List.set_cons_succ, List.set_cons_zero]
            refine' wpAnyH_take (i := 7) ?h1x7lb ?hsx7lb ?hfx7lb ?hrx7lb ?hQx7lb (Or.inl ⟨?hwx7lb, ?hyx7lb⟩) hS ?restx7lb
            case h1x7lb => (simp only [List.getElem?_toArray, List.getElem?_cons_succ, List.getElem?_cons_zero]; rfl)
            case hsx7lb | hfx7lb | hrx7lb => kernel_rfl
            case hQx7lb => exact fun _ _ _ h => h
            case hwx7lb => rfl
            case hyx7lb =>
              intro W hW
              go_simp
              try with_reducible rfl
            simp only [Act.put, List.setIfInBounds_toArray, List.set_cons_succ, List.set_cons_zero]
            refine' wpAnyH_take (i := 8) ?h1x8lb ?hsx8lb ?hfx8lb ?hrx8lb ?hQx8lb (Or.inl ⟨?hwx8lb, ?hyx8lb⟩) hS ?restx8lb
            case h1x8lb => (simp only [List.getElem?_toArray, List.getElem?_cons_succ, List.getElem?_cons_zero]; rfl)
            case hsx8lb | hfx8lb | hrx8lb => kernel_rfl
            case hQx8lb => exact fun _ _ _ h => h
            case hwx8lb => rfl
            case hyx8lb =>
              intro W hW
              go_simp
              try with_reducible rfl
            simp only [Act.put, List.setIfInBounds_toArray, List.set_cons_succ, List.set_cons_zero]
            refine' wpAnyH_take (i := 9) ?h1x9lb ?hsx9lb ?hfx9lb ?hrx9lb ?hQx9lb (Or.inl ⟨?hwx9lb, ?hyx9lb⟩) hS ?restx9lb
            case h1x9lb => (simp only [List.getElem?_toArray, List.getElem?_cons_succ, List.getElem?_cons_zero]; rfl)
            case hsx9lb | hfx9lb | hrx9lb => kernel_rfl
            case hQx9lb => exact fun _ _ _ h => h
            case hwx9lb => rfl
            case hyx9lb =>
              intro W hW
              go_simp
              try with_reducible rfl
            simp only [Act.put, List.setIfInBounds_toArray, List.set_cons_succ, List.set_cons_zero]
            refine wpAnyH_done (by kernel_rfl) ?_ _
            obtain ⟨w2, hw2⟩ : ∃ w2, w2 = w1.drew := ⟨_, rfl⟩
            have B2 : Hid (Below w1.heap.size w1 w2) := by rw [hw2]; exact (Below.refl _ _).drew
            rw [← hw2]
            clear hS hw2
            have c0 := (B2.out.cell (p := ⟨w.heap.size, 0, none⟩) LG1.out).trans C0.out
            have c1 := (B2.out.cell (p := ⟨w.heap.size, 1, none⟩) LG1.out).trans C1.out
            go_wp2_with fail
            go_ret
            exact ⟨by rw [FN.out]; rfl, B1.out.trans (B2.out.mono B1.out.size)⟩
        · have n3 : ¬ (nv : Int) = (n : Int) := by omega
          have m3 : ((nv : Int) == (n : Int)) = false := by simpa using n3
          have FN : Hid (rightB true ks nv nq = false) := by
            show _ = _
            unfold rightB
            rw [← HN.out]
            simp
            intros
            omega
          clear h3
          go_enter Try.func12, Try.ntmps12
          go_wp2_with fail
          rw [← HW1.out]
          refine wp_region_held_drew (S := fun W => Below w1.heap.size w1 W) (by kernel_rfl) (Below.refl _ _).drew (fun hS => ?_)
          refine' wpAnyH_take (i := 0) ?h1x0lc ?hsx0lc ?hfx0lc ?hrx0lc ?hQx0lc (Or.inl ⟨?hwx0lc, ?hyx0lc⟩) hS ?restx0lc
          case h1x0lc => (simp only [List.getElem?_toArray, List.getElem?_cons_zero]; rfl)
          case hsx0lc | hfx0lc | hrx0lc => kernel_rfl
          case hQx0lc => exact fun _ _ _ h => h
          case hwx0lc => rfl
          case hyx0lc =>
            intro W hW
            go_simp
            try with_reducible rfl
          simp only [Act.put, List.setIfInBounds_toArray, List.set_cons_succ, List.set_cons_zero]
          refine' wpAnyH_take (i := 1) ?h1x1lc ?hsx1lc ?hfx1lc ?hrx1lc ?hQx1lc (Or.inl ⟨?hwx1lc, ?hyx1lc⟩) hS ?restx1lc
          case h1x1lc => (simp only [List.getElem?_toArray, List.getElem?_cons_succ, List.getElem?_cons_zero]; rfl)
          case hsx1lc | hfx1lc | hrx1lc => kernel_rfl
          case hQx1lc => exact fun _ _ _ h => h
          case hwx1lc => rfl
          case hyx1lc =>
            intro W hW
            have c3 := (hW.cell (p := ⟨w.heap.size, 3, none⟩) LG1.out).trans C3.out
            go_simp
            try with_reducible rfl
          simp only [Act.put, List.setIfInBounds_toArray, List.set_cons_succ, List.set_cons_zero]
          refine' wpAnyH_take (i := 2) ?h1x2lc ?hsx2lc ?hfx2lc ?hrx2lc ?hQx2lc (Or.inl ⟨?hwx2lc, ?hyx2lc⟩) hS ?restx2lc
          case h1x2lc => (simp only [List.getElem?_toArray, List.getElem?_cons_succ, List.getElem?_cons_zero]; rfl)
          case hsx2lc | hfx2lc | hrx2lc => kernel_rfl
          case hQx2lc => exact fun _ _ _ h => h
          case hwx2lc => rfl
          case hyx2lc =>
            intro W hW
            go_simp
            try with_reducible rfl
          simp only [Act.put, List.setIfInBounds_toArray, List.set_cons_succ, List.set_cons_zero]
          refine' wpAnyH_take (i := 3) ?h1x3lc ?hsx3lc ?hfx3lc ?hrx3lc ?hQx3lc (Or.inl ⟨?hwx3lc, ?hyx3lc⟩) hS ?restx3lc
          case h1x3lc => (simp only [List.getElem?_toArray, List.getElem?_cons_succ, List.getElem?_cons_zero]; rfl)
          case hsx3lc | hfx3lc | hrx3lc => kernel_rfl
          case hQx3lc => exact fun _ _ _ h => h
          case hwx3lc => rfl
          case hyx3lc =>
            intro W hW
            go_simp
            try with_reducible rfl
          simp only [Act.put, List.setIfInBounds_toArray, List.set_cons_succ, List.set_cons_zero]
          refine' wpAnyH_take (i := 4) ?h1x4lc ?hsx4lc ?hfx4lc ?hrx4lc ?hQx4lc (Or.inl ⟨?hwx4lc, ?hyx4lc⟩) hS ?restx4lc
          case h1x4lc => (simp only [List.getElem?_toArray, List.getElem?_cons_succ, List.getElem?_cons_zero]; rfl)
          case hsx4lc | hfx4lc | hrx4lc => kernel_rfl
          case hQx4lc => exact fun _ _ _ h => h
          case hwx4lc => rfl
          case hyx4lc =>
            intro W hW
            have c2 := (hW.cell (p := ⟨w.heap.size, 2, none⟩) LG1.out).trans C2.out
            go_simp
            try with_reducible rfl
          simp only [Act.put, List.setIfInBounds_toArray, List.set_cons_succ, List.set_cons_zero]
          refine' wpAnyH_take (i := 5) ?h1x5lc ?hsx5lc ?hfx5lc ?hrx5lc ?hQx5lc (Or.inl ⟨?hwx5lc, ?hyx5lc⟩) hS ?restx5lc
          case h1x5lc => (simp only [List.getElem?_toArray, List.getElem?_cons_succ, List.getElem?_cons_zero]; rfl)
          case hsx5lc | hfx5lc | hrx5lc => kernel_rfl
          case hQx5lc => exact fun _ _ _ h => h
          case hwx5lc => rfl
          case hyx5lc =>
            intro W hW
            go_simp
            try with_reducible rfl
          simp only [Act.put, List.setIfInBounds_toArray, List.set_cons_succ, List.set_cons_zero]
          refine' wpAnyH_take (i := 6) ?h1x6lc ?hsx6lc ?hfx6lc ?hrx6lc ?hQx6lc (Or.inl ⟨?hwx6lc, ?hyx6lc⟩) hS ?restx6lc
          case h1x6lc => (simp only [List.getElem?_toArray, List.getElem?_cons_succ, List.getElem?_cons_zero]; rfl)
          case hsx6lc | hfx6lc | hrx6lc => kernel_rfl
          case hQx6lc => exact fun _ _ _ h => h
          case hwx6lc => rfl
          case hyx6lc =>
            intro W hW
            go_simp
            try with_reducible rfl
          simp only [Act.put, List.setIfInBounds_toArray, List.set_cons_succ, List.set_cons_zero]
          refine' wpAnyH_take (i := 7) ?h1x7lc ?hsx7lc ?hfx7lc ?hrx7lc ?hQx7lc (Or.inl ⟨?hwx7lc, ?hyx7lc⟩) hS ?restx7lc
          case h1x7lc => (simp only [List.getElem?_toArray, List.getElem?_cons_succ, List.getElem?_cons_zero]; rfl)
          case hsx7lc | hfx7lc | hrx7lc => kernel_rfl
          case hQx7lc => exact fun _ _ _ h => h
          case hwx7lc => rfl
          case hyx7lc =>
            intro W hW
            go_simp
            try with_reducible rfl
          simp only [Act.put, List.setIfInBounds_toArray, List.set_cons_succ, List.set_cons_zero]
          refine' wpAnyH_take (i := 8) ?h1x8lc ?hsx8lc ?hfx8lc ?hrx8lc ?hQx8lc (Or.inl ⟨?hwx8lc, ?hyx8lc⟩) hS ?restx8lc
          case h1x8lc => (simp only [List.getElem?_toArray, List.getElem?_cons_succ, List.getElem?_cons_zero]; rfl)
          case hsx8lc | hfx8lc | hrx8lc => kernel_rfl
          case hQx8lc => exact fun _ _ _ h => h
          case hwx8lc => rfl
          case hyx8lc =>
            intro W hW
            go_simp
            try with_reducible rfl
          simp only [Act.put, List.setIfInBounds_toArray, List.set_cons_succ, List.set_cons_zero]
          refine' wpAnyH_take (i := 9) ?h1x9lc ?hsx9lc ?hfx9lc ?hrx9lc ?hQx9lc (Or.inl ⟨?hwx9lc, ?hyx9lc⟩) hS ?restx9lc
          case h1x9lc => (simp only [List.getElem?_toArray, List.getElem?_cons_succ, List.getElem?_cons_zero]; rfl)
          case hsx9lc | hfx9lc | hrx9lc => kernel_rfl
          case hQx9lc => exact fun _ _ _ h => h
          case hwx9lc => rfl
          case hyx9lc =>
            intro W hW
            go_simp
            try with_reducible rfl
          simp only [Act.put, List.setIfInBounds_toArray, List.set_cons_succ, List.set_cons_zero]
          refine wpAnyH_done (by kernel_rfl) ?_ _
          obtain ⟨w2, hw2⟩ : ∃ w2, w2 = w1.drew := ⟨_, rfl⟩
          have B2 : Hid (Below w1.heap.size w1 w2) := by rw [hw2]; exact (Below.refl _ _).drew
          rw [← hw2]
          clear hS hw2
          have c0 := (B2.out.cell (p := ⟨w.heap.size, 0, none⟩) LG1.out).trans C0.out
          have c1 := (B2.out.cell (p := ⟨w.heap.size, 1, none⟩) LG1.out).trans C1.out
          go_wp2_with fail
          go_ret
          exact ⟨by rw [FN.out]; rfl, B1.out.trans (B2.out.mono B1.out.size)⟩
      · have FN : Hid (rightB true ks nv nq = false) := by
          show _ = _
          unfold rightB
          rw [← HN.out]
          simp
          intros
          omega
        go_enter Try.func12, Try.ntmps12
        go_wp2_with fail
        rw [← HW1.out]
        refine wp_region_held_drew (S := fun W => Below w1.heap.size w1 W) (by kernel_rfl) (Below.refl _ _).drew (fun hS => ?_)
        refine' wpAnyH_take (i := 0) ?h1x0ld ?hsx0ld ?hfx0ld ?hrx0ld ?hQx0ld (Or.inl ⟨?hwx0ld, ?hyx0ld⟩) hS ?restx0ld
        case h1x0ld => (simp only [List.getElem?_toArray, List.getElem?_cons_zero]; rfl)
        case hsx0ld | hfx0ld | hrx0ld => kernel_rfl
        case hQx0ld => exact fun _ _ _ h => h
        case hwx0ld => rfl
        case hyx0ld =>
          intro W hW
          go_simp
          try with_reducible rfl
        simp only [Act.put, List.setIfInBounds_toArray, List.set_cons_succ, List.set_cons_zero]
        refine' wpAnyH_take (i := 1) ?h1x1ld ?hsx1ld ?hfx1ld ?hrx1ld ?hQx1ld (Or.inl ⟨?hwx1ld, ?hyx1ld⟩) hS ?restx1ld
        case h1x1ld => (simp only [List.getElem?_toArray, List.getElem?_cons_succ, List.getElem?_cons_zero]; rfl)
        case hsx1ld | hfx1ld | hrx1ld => kernel_rfl
        case hQx1ld => exact fun _ _ _ h => h
        case hwx1ld => rfl
        case hyx1ld =>
          intro W hW
          have c3 := (hW.cell (p := ⟨w.heap.size, 3, none⟩) LG1.out).trans C3.out
          go_simp
          try with_reducible rfl
        simp only [Act.put, List.setIfInBounds_toArray, List.set_cons_succ, List.set_cons_zero]
        refine' wpAnyH_take (i := 2) ?h1x2ld ?hsx2ld ?hfx2ld ?hrx2ld ?hQx2ld (Or.inl ⟨?hwx2ld, ?hyx2ld⟩) hS ?restx2ld
        case h1x2ld => (simp only [List.getElem?_toArray, List.getElem?_cons_succ, List.getElem?_cons_zero]; rfl)
        case hsx2ld | hfx2ld | hrx2ld => kernel_rfl
        case hQx2ld => exact fun _ _ _ h => h
        case hwx2ld => rfl
        case hyx2ld =>
          intro W hW
          go_simp
          try with_reducible rfl
        simp only [Act.put, List.setIfInBounds_toArray, List.set_cons_succ, List.set_cons_zero]
        refine' wpAnyH_take (i := 3) ?h1x3ld ?hsx3ld ?hfx3ld ?hrx3ld ?hQx3ld (Or.inl ⟨?hwx3ld, ?hyx3ld⟩) hS ?restx3ld
        case h1x3ld => (simp only [List.getElem?_toArray, List.getElem?_cons_succ, List.getElem?_cons_zero]; rfl)
        case hsx3ld | hfx3ld | hrx3ld => kernel_rfl
        case hQx3ld => exact fun _ _ _ h => h
        case hwx3ld => rfl
        case hyx3ld =>
          intro W hW
          go_simp
          try with_reducible rfl
        simp only [Act.put, List.setIfInBounds_toArray, List.set_cons_succ, List.set_cons_zero]
        refine' wpAnyH_take (i := 4) ?h1x4ld ?hsx4ld ?hfx4ld ?hrx4ld ?hQx4ld (Or.inl ⟨?hwx4ld, ?hyx4ld⟩) hS ?restx4ld
        case h1x4ld => (simp only [List.getElem?_toArray, List.getElem?_cons_succ, List.getElem?_cons_zero]; rfl)
        case hsx4ld | hfx4ld | hrx4ld => kernel_rfl
        case hQx4ld => exact fun _ _ _ h => h
        case hwx4ld => rfl
        case hyx4ld =>
          intro W hW
          have c2 := (hW.cell (p := ⟨w.heap.size, 2, none⟩) LG1.out).trans C2.out
          go_simp
          try with_reducible rfl
        simp only [Act.put, List.setIfInBounds_toArray, List.set_cons_succ, List.set_cons_zero]
        refine' wpAnyH_take (i := 5) ?h1x5ld ?hsx5ld ?hfx5ld ?hrx5ld ?hQx5ld (Or.inl ⟨?hwx5ld, ?hyx5ld⟩) hS ?restx5ld
        case h1x5ld => (simp only [List.getElem?_toArray, List.getElem?_cons_succ, List.getElem?_cons_zero]; rfl)
        case hsx5ld | hfx5ld | hrx5ld => kernel_rfl
        case hQx5ld => exact fun _ _ _ h => h
        case hwx5ld => rfl
        case hyx5ld =>
          intro W hW
          go_simp
          try with_reducible rfl
        simp only [Act.put, List.setIfInBounds_toArray, List.set_cons_succ, List.set_cons_zero]
        refine' wpAnyH_take (i := 6) ?h1x6ld ?hsx6ld ?hfx6ld ?hrx6ld ?hQx6ld (Or.inl ⟨?hwx6ld, ?hyx6ld⟩) hS ?restx6ld
        case h1x6ld => (simp only [List.getElem?_toArray, List.getElem?_cons_succ, List.getElem?_cons_zero]; rfl)
        case hsx6ld | hfx6ld | hrx6ld => kernel_rfl
        case hQx6ld => exact fun _ _ _ h => h
        case hwx6ld => rfl
        case hyx6ld =>
          intro W hW
          go_simp
          try with_reducible rfl
        simp only [Act.put, List.setIfInBounds_toArray, List.set_cons_succ, List.set_cons_zero]
        refine' wpAnyH_take (i := 7) ?h1x7ld ?hsx7ld ?hfx7ld ?hrx7ld ?hQx7ld (Or.inl ⟨?hwx7ld, ?hyx7ld⟩) hS ?restx7ld
        case h1x7ld => (simp only [List.getElem?_toArray, List.getElem?_cons_succ, List.getElem?_cons_zero]; rfl)
        case hsx7ld | hfx7ld | hrx7ld => kernel_rfl
        case hQx7ld => exact fun _ _ _ h => h
        case hwx7ld => rfl
        case hyx7ld =>
          intro W hW
          go_simp
          try with_reducible rfl
        simp only [Act.put, List.setIfInBounds_toArray, List.set_cons_succ, List.set_cons_zero]
        refine' wpAnyH_take (i := 8) ?h1x8ld ?hsx8ld ?hfx8ld ?hrx8ld ?hQx8ld (Or.inl ⟨?hwx8ld, ?hyx8ld⟩) hS ?restx8ld
        case h1x8ld => (simp only [List.getElem?_toArray, List.getElem?_cons_succ, List.getElem?_cons_zero]; rfl)
        case hsx8ld | hfx8ld | hrx8ld => kernel_rfl
        case hQx8ld => exact fun _ _ _ h => h
        case hwx8ld => rfl
        case hyx8ld =>
          intro W hW
          go_simp
          try with_reducible rfl
        simp only [Act.put, List.setIfInBounds_toArray, List.set_cons_succ, List.set_cons_zero]
        refine' wpAnyH_take (i := 9) ?h1x9ld ?hsx9ld ?hfx9ld ?hrx9ld ?hQx9ld (Or.inl ⟨?hwx9ld, ?hyx9ld⟩) hS ?restx9ld
        case h1x9ld => (simp only [List.getElem?_toArray, List.getElem?_cons_succ, List.getElem?_cons_zero]; rfl)
        case hsx9ld | hfx9ld | hrx9ld => kernel_rfl
        case hQx9ld => exact fun _ _ _ h => h
        case hwx9ld => rfl
        case hyx9ld =>
          intro W hW
          go_simp
          try with_reducible rfl
        simp only [Act.put, List.setIfInBounds_toArray, List.set_cons_succ, List.set_cons_zero]
        refine wpAnyH_done (by kernel_rfl) ?_ _
        obtain ⟨w2, hw2⟩ : ∃ w2, w2 = w1.drew := ⟨_, rfl⟩
        have B2 : Hid (Below w1.heap.size w1 w2) := by rw [hw2]; exact (Below.refl _ _).drew
        rw [← hw2]
        clear hS hw2
        have c0 := (B2.out.cell (p := ⟨w.heap.size, 0, none⟩) LG1.out).trans C0.out
        have c1 := (B2.out.cell (p := ⟨w.heap.size, 1, none⟩) LG1.out).trans C1.out
        go_wp2_with fail
        go_ret
        exact ⟨by rw [FN.out]; rfl, B1.out.trans (B2.out.mono B1.out.size)⟩
    · have FN : Hid (rightB true ks nv nq = false) := by
        show _ = _
        unfold rightB
        rw [← HN.out]
        simp
        intros
        omega
      go_enter Try.func12, Try.ntmps12
      go_wp2_with fail
      rw [← HW1.out]
      refine wp_region_held_drew (S := fun W => Below w1.heap.size w1 W) (by kernel_rfl) (Below.refl _ _).drew (fun hS => ?_)
      refine' wpAnyH_take (i := 0) ?h1x0le ?hsx0le ?hfx0le ?hrx0le ?hQx0le (Or.inl ⟨?hwx0le, ?hyx0le⟩) hS ?restx0le
      case h1x0le => (simp only [List.getElem?_toArray, List.getElem?_cons_zero]; rfl)
      case hsx0le | hfx0le | hrx0le => kernel_rfl
      case hQx0le => exact fun _ _ _ h => h
      case hwx0le => rfl
      case hyx0le =>
        intro W hW
        go_simp
        try with_reducible rfl
      simp only [Act.put, List.setIfInBounds_toArray, List.set_cons_succ, List.set_cons_zero]
      refine' wpAnyH_take (i := 1) ?h1x1le ?hsx1le ?hfx1le ?hrx1le ?hQx1le (Or.inl ⟨?hwx1le, ?hyx1le⟩) hS ?restx1le
      case h1x1le => (simp only [List.getElem?_toArray, List.getElem?_cons_succ, List.getElem?_cons_zero]; rfl)
      case hsx1le | hfx1le | hrx1le => kernel_rfl
      case hQx1le => exact fun _ _ _ h => h
      case hwx1le => rfl
      case hyx1le =>
        intro W hW
        have c3 := (hW.cell (p := ⟨w.heap.size, 3, none⟩) LG1.out).trans C3.out
        go_simp
        try with_reducible rfl
      simp only [Act.put, List.setIfInBounds_toArray, List.set_cons_succ, List.set_cons_zero]
      refine' wpAnyH_take (i := 2) ?h1x2le ?hsx2le ?hfx2le ?hrx2le ?hQx2le (Or.inl ⟨?hwx2le, ?hyx2le⟩) hS ?restx2le
      case h1x2le => (simp only [List.getElem?_toArray, List.getElem?_cons_succ, List.getElem?_cons_zero]; rfl)
      case hsx2le | hfx2le | hrx2le => kernel_rfl
      case hQx2le => exact fun _ _ _ h => h
      case hwx2le => rfl
      case hyx2le =>
        intro W hW
        go_simp
        try with_reducible rfl
      simp only [Act.put, List.setIfInBounds_toArray, List.set_cons_succ, List.set_cons_zero]
      refine' wpAnyH_take (i := 3) ?h1x3le ?hsx3le ?hfx3le ?hrx3le ?hQx3le (Or.inl ⟨?hwx3le, ?hyx3le⟩) hS ?restx3le
      case h1x3le => (simp only [List.getElem?_toArray, List.getElem?_cons_succ, List.getElem?_cons_zero]; rfl)
      case hsx3le | hfx3le | hrx3le => kernel_rfl
      case hQx3le => exact fun _ _ _ h => h
      case hwx3le => rfl
      case hyx3le =>
        intro W hW
        go_simp
        try with_reducible rfl
      simp only [Act.put, List.setIfInBounds_toArray, List.set_cons_succ, List.set_cons_zero]
      refine' wpAnyH_take (i := 4) ?h1x4le ?hsx4le ?hfx4le ?hrx4le ?hQx4le (Or.inl ⟨?hwx4le, ?hyx4le⟩) hS ?restx4le
      case h1x4le => (simp only [List.getElem?_toArray, List.getElem?_cons_succ, List.getElem?_cons_zero]; rfl)
      case hsx4le | hfx4le | hrx4le => kernel_rfl
      case hQx4le => exact fun _ _ _ h => h
      case hwx4le => rfl
      case hyx4le =>
        intro W hW
        have c2 := (hW.cell (p := ⟨w.heap.size, 2, none⟩) LG1.out).trans C2.out
        go_simp
        try with_reducible rfl
      simp only [Act.put, List.setIfInBounds_toArray, List.set_cons_succ, List.set_cons_zero]
      refine' wpAnyH_take (i := 5) ?h1x5le ?hsx5le ?hfx5le ?hrx5le ?hQx5le (Or.inl ⟨?hwx5le, ?hyx5le⟩) hS ?restx5le
      case h1x5le => (simp only [List.getElem?_toArray, List.getElem?_cons_succ, List.getElem?_cons_zero]; rfl)
      case hsx5le | hfx5le | hrx5le => kernel_rfl
      case hQx5le => exact fun _ _ _ h => h
      case hwx5le => rfl
      case hyx5le =>
        intro W hW
        go_simp
        try with_reducible rfl
      simp only [Act.put, List.setIfInBounds_toArray, List.set_cons_succ, List.set_cons_zero]
      refine' wpAnyH_take (i := 6) ?h1x6le ?hsx6le ?hfx6le ?hrx6le ?hQx6le (Or.inl ⟨?hwx6le, ?hyx6le⟩) hS ?restx6le
      case h1x6le => (simp only [List.getElem?_toArray, List.getElem?_cons_succ, List.getElem?_cons_zero]; rfl)
      case hsx6le | hfx6le | hrx6le => kernel_rfl
      case hQx6le => exact fun _ _ _ h => h
      case hwx6le => rfl
      case hyx6le =>
        intro W hW
        go_simp
        try with_reducible rfl
      simp only [Act.put, List.setIfInBounds_toArray, List.set_cons_succ, List.set_cons_zero]
      refine' wpAnyH_take (i := 7) ?h1x7le ?hsx7le ?hfx7le ?hrx7le ?hQx7le (Or.inl ⟨?hwx7le, ?hyx7le⟩) hS ?restx7le
      case h1x7le => (simp only [List.getElem?_toArray, List.getElem?_cons_succ, List.getElem?_cons_zero]; rfl)
      case hsx7le | hfx7le | hrx7le => kernel_rfl
      case hQx7le => exact fun _ _ _ h => h
      case hwx7le => rfl
      case hyx7le =>
        intro W hW
        go_simp
        try with_reducible rfl
      simp only [Act.put, List.setIfInBounds_toArray, List.set_cons_succ, List.set_cons_zero]
      refine' wpAnyH_take (i := 8) ?h1x8le ?hsx8le ?hfx8le ?hrx8le ?hQx8le (Or.inl ⟨?hwx8le, ?hyx8le⟩) hS ?restx8le
      case h1x8le => (simp only [List.getElem?_toArray, List.getElem?_cons_succ, List.getElem?_cons_zero]; rfl)
      case hsx8le | hfx8le | hrx8le => kernel_rfl
      case hQx8le => exact fun _ _ _ h => h
      case hwx8le => rfl
      case hyx8le =>
        intro W hW
        go_simp
        try with_reducible rfl
      simp only [Act.put, List.setIfInBounds_toArray, List.set_cons_succ, List.set_cons_zero]
      refine' wpAnyH_take (i := 9) ?h1x9le ?hsx9le ?hfx9le ?hrx9le ?hQx9le (Or.inl ⟨?hwx9le, ?hyx9le⟩) hS ?restx9le
      case h1x9le => (simp only [List.getElem?_toArray, List.getElem?_cons_succ, List.getElem?_cons_zero]; rfl)
      case hsx9le | hfx9le | hrx9le => kernel_rfl
      case hQx9le => exact fun _ _ _ h => h
      case hwx9le => rfl
      case hyx9le =>
        intro W hW
        go_simp
        try with_reducible rfl
      simp only [Act.put, List.setIfInBounds_toArray, List.set_cons_succ, List.set_cons_zero]
      refine wpAnyH_done (by kernel_rfl) ?_ _
      obtain ⟨w2, hw2⟩ : ∃ w2, w2 = w1.drew := ⟨_, rfl⟩
      have B2 : Hid (Below w1.heap.size w1 w2) := by rw [hw2]; exact (Below.refl _ _).drew
      rw [← hw2]
      clear hS hw2
      have c0 := (B2.out.cell (p := ⟨w.heap.size, 0, none⟩) LG1.out).trans C0.out
      have c1 := (B2.out.cell (p := ⟨w.heap.size, 1, none⟩) LG1.out).trans C1.out
      go_wp2_with fail
      go_ret
      exact ⟨by rw [FN.out]; rfl, B1.out.trans (B2.out.mono B1.out.size)⟩
  | false =>
    by_cases h1 : (2 : Int) ≤ (n : Int)
    · by_cases h2 : (n : Int) ≤ (11 : Int)
      · by_cases h3 : nq = n
        · by_cases h4 : nv = 0
          · have FN : Hid (rightB false ks nv nq = risesB ks) := by
              show _ = _
              unfold rightB
              rw [← HN.out]
              simp
              intros
              omega
            subst h3
            subst h4
            go_enter Try.func12, Try.ntmps12
            go_wp2_with fail
            rw [← HW1.out]
            refine wp_region_held_drew (S := fun W => Below w1.heap.size w1 W) (by kernel_rfl) (Below.refl _ _).drew (fun hS => ?_)
            refine' wpAnyH_take (i := 0) ?h1x0ia ?hsx0ia ?hfx0ia ?hrx0ia ?hQx0ia (Or.inl ⟨?hwx0ia, ?hyx0ia⟩) hS ?restx0ia
            case h1x0ia => (simp only [List.getElem?_toArray, List.getElem?_cons_zero]; rfl)
            case hsx0ia | hfx0ia | hrx0ia => kernel_rfl
            case hQx0ia => exact fun _ _ _ h => h
            case hwx0ia => rfl
            case hyx0ia =>
              intro W hW
              go_simp
              try with_reducible rfl
            simp only [Act.put, List.setIfInBounds_toArray, List.set_cons_succ, List.set_cons_zero]
            refine' wpAnyH_take (i := 1) ?h1x1ia ?hsx1ia ?hfx1ia ?hrx1ia ?hQx1ia (Or.inl ⟨?hwx1ia, ?hyx1ia⟩) hS ?restx1ia
            case h1x1ia => (simp only [List.getElem?_toArray, List.getElem?_cons_succ, List.getElem?_cons_zero]; rfl)
            case hsx1ia | hfx1ia | hrx1ia => kernel_rfl
            case hQx1ia => exact fun _ _ _ h => h
            case hwx1ia => rfl
            case hyx1ia =>
              intro W hW
              have c3 := (hW.cell (p := ⟨w.heap.size, 3, none⟩) LG1.out).trans C3.out
              go_simp
              try with_reducible rfl
            simp only [Act.put, List.setIfInBounds_toArray, List.set_cons_succ, List.set_cons_zero]
            refine' wpAnyH_take (i := 2) ?h1x2ia ?hsx2ia ?hfx2ia ?hrx2ia ?hQx2ia (Or.inl ⟨?hwx2ia, ?hyx2ia⟩) hS ?restx2ia
            case h1x2ia => (simp only [List.getElem?_toArray, List.getElem?_cons_succ, List.getElem?_cons_zero]; rfl)
            case hsx2ia | hfx2ia | hrx2ia => kernel_rfl
            case hQx2ia => exact fun _ _ _ h => h
            case hwx2ia => rfl
            case hyx2ia =>
              intro W hW
              go_simp
              try with_reducible rfl
            simp only [Act.put, List.setIfInBounds_toArray, List.set_cons_succ, List.set_cons_zero]
            refine' wpAnyH_take (i := 3) ?h1x3ia ?hsx3ia ?hfx3ia ?hrx3ia ?hQx3ia (Or.inl ⟨?hwx3ia, ?hyx3ia⟩) hS ?restx3ia
            case h1x3ia => (simp only [List.getElem?_toArray, List.getElem?_cons_succ, List.getElem?_cons_zero]; rfl)
            case hsx3ia | hfx3ia | hrx3ia => kernel_rfl
            case hQx3ia => exact fun _ _ _ h => h
            case hwx3ia => rfl
            case hyx3ia =>
              intro W hW
              go_simp
              try with_reducible rfl
            simp only [Act.put, List.setIfInBounds_toArray, List.set_cons_succ, List.set_cons_zero]
            refine' wpAnyH_take (i := 4) ?h1x4ia ?hsx4ia ?hfx4ia ?hrx4ia ?hQx4ia (Or.inl ⟨?hwx4ia, ?hyx4ia⟩) hS ?restx4ia
            case h1x4ia => (simp only [List.getElem?_toArray, List.getElem?_cons_succ, List.getElem?_cons_zero]; rfl)
            case hsx4ia | hfx4ia | hrx4ia => kernel_rfl
            case hQx4ia => exact fun _ _ _ h => h
            case hwx4ia => rfl
            case hyx4ia =>
              intro W hW
              have c2 := (hW.cell (p := ⟨w.heap.size, 2, none⟩) LG1.out).trans C2.out
              go_simp
              try with_reducible rfl
            simp only [Act.put, List.setIfInBounds_toArray, List.set_cons_succ, List.set_cons_zero]
            refine' wpAnyH_take (i := 5) ?h1x5ia ?hsx5ia ?hfx5ia ?hrx5ia ?hQx5ia (Or.inl ⟨?hwx5ia, ?hyx5ia⟩) hS ?restx5ia
            case h1x5ia => (simp only [List.getElem?_toArray, List.getElem?_cons_succ, List.getElem?_cons_zero]; rfl)
            case hsx5ia | hfx5ia | hrx5ia => kernel_rfl
            case hQx5ia => exact fun _ _ _ h => h
            case hwx5ia => rfl
            case hyx5ia =>
              intro W hW
              go_simp
              try with_reducible rfl
            simp only [Act.put, List.setIfInBounds_toArray, List.set_cons_succ, List.set_cons_zero]
            refine' wpAnyH_take (i := 6) ?h1x6ia ?hsx6ia ?hfx6ia ?hrx6ia ?hQx6ia (Or.inl ⟨?hwx6ia, ?hyx6ia⟩) hS ?restx6ia
            case h1x6ia => (simp only [List.getElem?_toArray, List.getElem?_cons_succ, List.getElem?_cons_zero]; rfl)
            case hsx6ia | hfx6ia | hrx6ia => kernel_rfl
            case hQx6ia => exact fun _ _ _ h => h
            case hwx6ia => rfl
            case hyx6ia =>
              intro W hW
              go_simp
              try with_reducible rfl
            simp only [Act.put, List.setIfInBounds_toArray, List.set_cons_succ, List.set_cons_zero]
            refine' wpAnyH_take (i := 7) ?h1x7ia ?hsx7ia ?hfx7ia ?hrx7ia ?hQx7ia (Or.inl ⟨?hwx7ia, ?hyx7ia⟩) hS ?restx7ia
            case h1x7ia => (simp only [List.getElem?_toArray, List.getElem?_cons_succ, List.getElem?_cons_zero]; rfl)
            case hsx7ia | hfx7ia | hrx7ia => kernel_rfl
            case hQx7ia => exact fun _ _ _ h => h
            case hwx7ia => rfl
            case hyx7ia =>
              intro W hW
              go_simp
              try with_reducible rfl
            simp only [Act.put, List.setIfInBounds_toArray, List.set_cons_succ, List.set_cons_zero]
            refine' wpAnyH_take (i := 8) ?h1x8ia ?hsx8ia ?hfx8ia ?hrx8ia ?hQx8ia (Or.inl ⟨?hwx8ia, ?hyx8ia⟩) hS ?restx8ia
            case h1x8ia => (simp only [List.getElem?_toArray, List.getElem?_cons_succ, List.getElem?_cons_zero]; rfl)
            case hsx8ia | hfx8ia | hrx8ia => kernel_rfl
            case hQx8ia => exact fun _ _ _ h => h
            case hwx8ia => rfl
            case hyx8ia =>
              intro W hW
              go_simp
              try with_reducible rfl
            simp only [Act.put, List.setIfInBounds_toArray, List.set_cons_succ, List.set_cons_zero]
            refine' wpAnyH_take (i := 9) ?h1x9ia ?hsx9ia ?hfx9ia ?hrx9ia ?hQx9ia (Or.inl ⟨?hwx9ia, ?hyx9ia⟩) hS ?restx9ia
            case h1x9ia => (simp only [List.getElem?_toArray, List.getElem?_cons_succ, List.getElem?_cons_zero]; rfl)
            case hsx9ia | hfx9ia | hrx9ia => kernel_rfl
            case hQx9ia => exact fun _ _ _ h => h
            case hwx9ia => rfl
            case hyx9ia =>
              intro W hW
              go_simp
              try with_reducible rfl
            simp only [Act.put, List.setIfInBounds_toArray, List.set_cons_succ, List.set_cons_zero]
            refine wpAnyH_done (by kernel_rfl) ?_ _
            obtain ⟨w2, hw2⟩ : ∃ w2, w2 = w1.drew := ⟨_, rfl⟩
            have B2 : Hid (Below w1.heap.size w1 w2) := by rw [hw2]; exact (Below.refl _ _).drew
            rw [← hw2]
            clear hS hw2
            have c0 := (B2.out.cell (p := ⟨w.heap.size, 0, none⟩) LG1.out).trans C0.out
            have c1 := (B2.out.cell (p := ⟨w.heap.size, 1, none⟩) LG1.out).trans C1.out
            go_wp2_with fail
            refine (RS.out _ B2.out).mono ?_
            rintro e w3 ⟨rfl, hb3⟩
            have B3 := Lib.hid (B2.out.trans (hb3.mono B2.out.size))
            clear hb3
            go_wp2_with fail
            go_ret
            exact ⟨by rw [FN.out]; rfl, B1.out.trans (B3.out.mono B1.out.size)⟩
          · have n4 : ¬ (nv : Int) = 0 := by omega
            have m4 : ((nv : Int) == 0) = false := by simpa using h4
            have FN : Hid (rightB false ks nv nq = false) := by
              show _ = _
              unfold rightB
              rw [← HN.out]
              simp
              intros
              omega
            clear h4
            subst h3
            go_enter Try.func12, Try.ntmps12
            go_wp2_with fail
            rw [← HW1.out]
            refine wp_region_held_drew (S := fun W => Below w1.heap.size w1 W) (by kernel_rfl) (Below.refl _ _).drew (fun hS => ?_)
            refine' wpAnyH_take (i := 0) ?h1x0ib ?hsx0ib ?hfx0ib ?hrx0ib ?hQx0ib (Or.inl ⟨?hwx0ib, ?hyx0ib⟩) hS ?restx0ib
            case h1x0ib => (simp only [List.getElem?_toArray, List.getElem?_cons_zero]; rfl)
            case hsx0ib | hfx0ib | hrx0ib => kernel_rfl
            case hQx0ib => exact fun _ _ _ h => h
            case hwx0ib => rfl
            case hyx0ib =>
              intro W hW
              go_simp
              try with_reducible rfl
            simp only [Act.put, List.setIfInBounds_toArray, List.set_cons_succ, List.set_cons_zero]
            refine' wpAnyH_take (i := 1) ?h1x1ib ?hsx1ib ?hfx1ib ?hrx1ib ?hQx1ib (Or.inl ⟨?hwx1ib, ?hyx1ib⟩) hS ?restx1ib
            case h1x1ib => (simp only [List.getElem?_toArray, List.getElem?_cons_succ, List.getElem?_cons_zero]; rfl)
            case hsx1ib | hfx1ib | hrx1ib => kernel_rfl
            case hQx1ib => exact fun _ _ _ h => h
            case hwx1ib => rfl
            case hyx1ib =>
              intro W hW
              have c3 := (hW.cell (p := ⟨w.heap.size, 3, none⟩) LG1.out).trans C3.out
              go_simp
              try with_reducible rfl
            simp only [Act.put, List.setIfInBounds_toArray, List.set_cons_succ, List.set_cons_zero]
            refine' wpAnyH_take (i := 2) ?h1x2ib ?hsx2ib ?hfx2ib ?hrx2ib ?hQx2ib (Or.inl ⟨?hwx2ib, ?hyx2ib⟩) hS ?restx2ib
            case h1x2ib => (simp only [List.getElem?_toArray, List.getElem?_cons_succ, List.getElem?_cons_zero]; rfl)
            case hsx2ib | hfx2ib | hrx2ib => kernel_rfl
            case hQx2ib => exact fun _ _ _ h => h
            case hwx2ib => rfl
            case hyx2ib =>
              intro W hW
              go_simp
              try with_reducible rfl
            simp only [Act.put, List.setIfInBounds_toArray, List.set_cons_succ, List.set_cons_zero]
            refine' wpAnyH_take (i := 3) ?h1x3ib ?hsx3ib ?hfx3ib ?hrx3ib ?hQx3ib (Or.inl ⟨?hwx3ib, ?hyx3ib⟩) hS ?restx3ib
            case h1x3ib => (simp only [List.getElem?_toArray, List.getElem?_cons_succ, List.getElem?_cons_zero]; rfl)
            case hsx3ib | hfx3ib | hrx3ib => kernel_rfl
            case hQx3ib => exact fun _ _ _ h => h
            case hwx3ib => rfl
            case hyx3ib =>
              intro W hW
              go_simp
              try with_reducible rfl
            simp only [Act.put, List.setIfInBounds_toArray, List.set_cons_succ, List.set_cons_zero]
            refine' wpAnyH_take (i := 4) ?h1x4ib ?hsx4ib ?hfx4ib ?hrx4ib ?hQx4ib (Or.inl ⟨?hwx4ib, ?hyx4ib⟩) hS ?restx4ib
            case h1x4ib => (simp only [List.getElem?_toArray, List.getElem?_cons_succ, List.getElem?_cons_zero]; rfl)
            case hsx4ib | hfx4ib | hrx4ib => kernel_rfl
            case hQx4ib => exact fun _ _ _ h => h
            case hwx4ib => rfl
            case hyx4ib =>
              intro W hW
              have c2 := (hW.cell (p := ⟨w.heap.size, 2, none⟩) LG1.out).trans C2.out
              go_simp
              try with_reducible rfl
            simp only [Act.put, List.setIfInBounds_toArray, List.set_cons_succ, List.set_cons_zero]
            refine' wpAnyH_take (i := 5) ?h1x5ib ?hsx5ib ?hfx5ib ?hrx5ib ?hQx5ib (Or.inl ⟨?hwx5ib, ?hyx5ib⟩) hS ?restx5ib
            case h1x5ib => (simp only [List.getElem?_toArray, List.getElem?_cons_succ, List.getElem?_cons_zero]; rfl)
            case hsx5ib | hfx5ib | hrx5ib => kernel_rfl
            case hQx5ib => exact fun _ _ _ h => h
            case hwx5ib => rfl
            case hyx5ib =>
              intro W hW
              go_simp
              try with_reducible rfl
            simp only [Act.put, List.setIfInBounds_toArray, List.set_cons_succ, List.set_cons_zero]
            refine' wpAnyH_take (i := 6) ?h1x6ib ?hsx6ib ?hfx6ib ?hrx6ib ?hQx6ib (Or.inl ⟨?hwx6ib, ?hyx6ib⟩) hS ?restx6ib
            case h1x6ib => (simp only [List.getElem?_toArray, List.getElem?_cons_succ, List.getElem?_cons_zero]; rfl)
            case hsx6ib | hfx6ib | hrx6ib => kernel_rfl
            case hQx6ib => exact fun _ _ _ h => h
            case hwx6ib => rfl
            case hyx6ib =>
              intro W hW
              go_simp
              try with_reducible rfl
            simp only [Act.put, List.setIfInBounds_toArray, List.set_cons_succ, List.set_cons_zero]
            refine' wpAnyH_take (i := 7) ?h1x7ib ?hsx7ib ?hfx7ib ?hrx7ib ?hQx7ib (Or.inl ⟨?hwx7ib, ?hyx7ib⟩) hS ?restx7ib
            case h1x7ib => (simp only [List.getElem?_toArray, List.getElem?_cons_succ, List.getElem?_cons_zero]; rfl)
            case hsx7ib | hfx7ib | hrx7ib => kernel_rfl
            case hQx7ib => exact fun _ _ _ h => h
            case hwx7ib => rfl
            case hyx7ib =>
              intro W hW
              go_simp
              try with_reducible rfl
            simp only [Act.put, List.setIfInBounds_toArray, List.set_cons_succ, List.set_cons_zero]
            refine' wpAnyH_take (i := 8) ?h1x8ib ?hsx8ib ?hfx8ib ?hrx8ib ?hQx8ib (Or.inl ⟨?hwx8ib, ?hyx8ib⟩) hS ?restx8ib
            case h1x8ib => (simp only [List.getElem?_toArray, List.getElem?_cons_succ, List.getElem?_cons_zero]; rfl)
            case hsx8ib | hfx8ib | hrx8ib => kernel_rfl
            case hQx8ib => exact fun _ _ _ h => h
            case hwx8ib => rfl
            case hyx8ib =>
              intro W hW
              go_simp
              try with_reducible rfl
            simp only [Act.put, List.setIfInBounds_toArray, List.set_cons_succ, List.set_cons_zero]
            refine' wpAnyH_take (i := 9) ?h1x9ib ?hsx9ib ?hfx9ib ?hrx9ib ?hQx9ib (Or.inl ⟨?hwx9ib, ?hyx9ib⟩) hS ?restx9ib
            case h1x9ib => (simp only [List.getElem?_toArray, List.getElem?_cons_succ, List.getElem?_cons_zero]; rfl)
            case hsx9ib | hfx9ib | hrx9ib => kernel_rfl
            case hQx9ib => exact fun _ _ _ h => h
            case hwx9ib => rfl
            case hyx9ib =>
              intro W hW
              go_simp
              try with_reducible rfl
            simp only [Act.put, List.setIfInBounds_toArray, List.set_cons_succ, List.set_cons_zero]
            refine wpAnyH_done (by kernel_rfl) ?_ _
            obtain ⟨w2, hw2⟩ : ∃ w2, w2 = w1.drew := ⟨_, rfl⟩
            have B2 : Hid (Below w1.heap.size w1 w2) := by rw [hw2]; exact (Below.refl _ _).drew
            rw [← hw2]
            clear hS hw2
            have c0 := (B2.out.cell (p := ⟨w.heap.size, 0, none⟩) LG1.out).trans C0.out
            have c1 := (B2.out.cell (p := ⟨w.heap.size, 1, none⟩) LG1.out).trans C1.out
            go_wp2_with fail
            go_ret
            exact ⟨by rw [FN.out]; rfl, B1.out.trans (B2.out.mono B1.out.size)⟩
        · have n3 : ¬ (nq : Int) = (n : Int) := by omega
          have m3 : ((nq : Int) == (n : Int)) = false := by simpa using n3
          have FN : Hid (rightB false ks nv nq = false) := by
            show _ = _
            unfold rightB
            rw [← HN.out]
            simp
            intros
            omega
          clear h3
          go_enter Try.func12, Try.ntmps12
          go_wp2_with fail
          rw [← HW1.out]
          refine wp_region_held_drew (S := fun W => Below w1.heap.size w1 W) (by kernel_rfl) (Below.refl _ _).drew (fun hS => ?_)
          refine' wpAnyH_take (i := 0) ?h1x0ic ?hsx0ic ?hfx0ic ?hrx0ic ?hQx0ic (Or.inl ⟨?hwx0ic, ?hyx0ic⟩) hS ?restx0ic
          case h1x0ic => (simp only [List.getElem?_toArray, List.getElem?_cons_zero]; rfl)
          case hsx0ic | hfx0ic | hrx0ic => kernel_rfl
          case hQx0ic => exact fun _ _ _ h => h
          case hwx0ic => rfl
          case hyx0ic =>
            intro W hW
            go_simp
            try with_reducible rfl
          simp only [Act.put, List.setIfInBounds_toArray, List.set_cons_succ, List.set_cons_zero]
          refine' wpAnyH_take (i := 1) ?h1x1ic ?hsx1ic ?hfx1ic ?hrx1ic ?hQx1ic (Or.inl ⟨?hwx1ic, ?hyx1ic⟩) hS ?restx1ic
          case h1x1ic => (simp only [List.getElem?_toArray, List.getElem?_cons_succ, List.getElem?_cons_zero]; rfl)
          case hsx1ic | hfx1ic | hrx1ic => kernel_rfl
          case hQx1ic => exact fun _ _ _ h => h
          case hwx1ic => rfl
          case hyx1ic =>
            intro W hW
            have c3 := (hW.cell (p := ⟨w.heap.size, 3, none⟩) LG1.out).trans C3.out
            go_simp
            try with_reducible rfl
          simp only [Act.put, List.setIfInBounds_toArray, List.set_cons_succ, List.set_cons_zero]
          refine' wpAnyH_take (i := 2) ?h1x2ic ?hsx2ic ?hfx2ic ?hrx2ic ?hQx2ic (Or.inl ⟨?hwx2ic, ?hyx2ic⟩) hS ?restx2ic
          case h1x2ic => (simp only [List.getElem?_toArray, List.getElem?_cons_succ, List.getElem?_cons_zero]; rfl)
          case hsx2ic | hfx2ic | hrx2ic => kernel_rfl
          case hQx2ic => exact fun _ _ _ h => h
          case hwx2ic => rfl
          case hyx2ic =>
            intro W hW
            go_simp
            try with_reducible rfl
          simp only [Act.put, List.setIfInBounds_toArray, List.set_cons_succ, List.set_cons_zero]
          refine' wpAnyH_take (i := 3) ?h1x3ic ?hsx3ic ?hfx3ic ?hrx3ic ?hQx3ic (Or.inl ⟨?hwx3ic, ?hyx3ic⟩) hS ?restx3ic
          case h1x3ic => (simp only [List.getElem?_toArray, List.getElem?_cons_succ, List.getElem?_cons_zero]; rfl)
          case hsx3ic | hfx3ic | hrx3ic => kernel_rfl
          case hQx3ic => exact fun _ _ _ h => h
          case hwx3ic => rfl
          case hyx3ic =>
            intro W hW
            go_simp
            try with_reducible rfl
          simp only [Act.put, List.setIfInBounds_toArray, List.set_cons_succ, List.set_cons_zero]
          refine' wpAnyH_take (i := 4) ?h1x4ic ?hsx4ic ?hfx4ic ?hrx4ic ?hQx4ic (Or.inl ⟨?hwx4ic, ?hyx4ic⟩) hS ?restx4ic
          case h1x4ic => (simp only [List.getElem?_toArray, List.getElem?_cons_succ, List.getElem?_cons_zero]; rfl)
          case hsx4ic | hfx4ic | hrx4ic => kernel_rfl
          case hQx4ic => exact fun _ _ _ h => h
          case hwx4ic => rfl
          case hyx4ic =>
            intro W hW
            have c2 := (hW.cell (p := ⟨w.heap.size, 2, none⟩) LG1.out).trans C2.out
            go_simp
            try with_reducible rfl
          simp only [Act.put, List.setIfInBounds_toArray, List.set_cons_succ, List.set_cons_zero]
          refine' wpAnyH_take (i := 5) ?h1x5ic ?hsx5ic ?hfx5ic ?hrx5ic ?hQx5ic (Or.inl ⟨?hwx5ic, ?hyx5ic⟩) hS ?restx5ic
          case h1x5ic => (simp only [List.getElem?_toArray, List.getElem?_cons_succ, List.getElem?_cons_zero]; rfl)
          case hsx5ic | hfx5ic | hrx5ic => kernel_rfl
          case hQx5ic => exact fun _ _ _ h => h
          case hwx5ic => rfl
          case hyx5ic =>
            intro W hW
            go_simp
            try with_reducible rfl
          simp only [Act.put, List.setIfInBounds_toArray, List.set_cons_succ, List.set_cons_zero]
          refine' wpAnyH_take (i := 6) ?h1x6ic ?hsx6ic ?hfx6ic ?hrx6ic ?hQx6ic (Or.inl ⟨?hwx6ic, ?hyx6ic⟩) hS ?restx6ic
          case h1x6ic => (simp only [List.getElem?_toArray, List.getElem?_cons_succ, List.getElem?_cons_zero]; rfl)
          case hsx6ic | hfx6ic | hrx6ic => kernel_rfl
          case hQx6ic => exact fun _ _ _ h => h
          case hwx6ic => rfl
          case hyx6ic =>
            intro W hW
            go_simp
            try with_reducible rfl
          simp only [Act.put, List.setIfInBounds_toArray, List.set_cons_succ, List.set_cons_zero]
          refine' wpAnyH_take (i := 7) ?h1x7ic ?hsx7ic ?hfx7ic ?hrx7ic ?hQx7ic (Or.inl ⟨?hwx7ic, ?hyx7ic⟩) hS ?restx7ic
          case h1x7ic => (simp only [List.getElem?_toArray, List.getElem?_cons_succ, List.getElem?_cons_zero]; rfl)
          case hsx7ic | hfx7ic | hrx7ic => kernel_rfl
          case hQx7ic => exact fun _ _ _ h => h
          case hwx7ic => rfl
          case hyx7ic =>
            intro W hW
            go_simp
            try with_reducible rfl
          simp only [Act.put, List.setIfInBounds_toArray, List.set_cons_succ, List.set_cons_zero]
          refine' wpAnyH_take (i := 8) ?h1x8ic ?hsx8ic ?hfx8ic ?hrx8ic ?hQx8ic (Or.inl ⟨?hwx8ic, ?hyx8ic⟩) hS ?restx8ic
          case h1x8ic => (simp only [List.getElem?_toArray, List.getElem?_cons_succ, List.getElem?_cons_zero]; rfl)
          case hsx8ic | hfx8ic | hrx8ic => kernel_rfl
          case hQx8ic => exact fun _ _ _ h => h
          case hwx8ic => rfl
          case hyx8ic =>
            intro W hW
            go_simp
            try with_reducible rfl
          simp only [Act.put, List.setIfInBounds_toArray, List.set_cons_succ, List.set_cons_zero]
          refine' wpAnyH_take (i := 9) ?h1x9ic ?hsx9ic ?hfx9ic ?hrx9ic ?hQx9ic (Or.inl ⟨?hwx9ic, ?hyx9ic⟩) hS ?restx9ic
          case h1x9ic => (simp only [List.getElem?_toArray, List.getElem?_cons_succ, List.getElem?_cons_zero]; rfl)
          case hsx9ic | hfx9ic | hrx9ic => kernel_rfl
          case hQx9ic => exact fun _ _ _ h => h
          case hwx9ic => rfl
          case hyx9ic =>
            intro W hW
            go_simp
            try with_reducible rfl
          simp only [Act.put, List.setIfInBounds_toArray, List.set_cons_succ, List.set_cons_zero]
          refine wpAnyH_done (by kernel_rfl) ?_ _
          obtain ⟨w2, hw2⟩ : ∃ w2, w2 = w1.drew := ⟨_, rfl⟩
          have B2 : Hid (Below w1.heap.size w1 w2) := by rw [hw2]; exact (Below.refl _ _).drew
          rw [← hw2]
          clear hS hw2
          have c0 := (B2.out.cell (p := ⟨w.heap.size, 0, none⟩) LG1.out).trans C0.out
          have c1 := (B2.out.cell (p := ⟨w.heap.size, 1, none⟩) LG1.out).trans C1.out
          go_wp2_with fail
          go_ret
          exact ⟨by rw [FN.out]; rfl, B1.out.trans (B2.out.mono B1.out.size)⟩
      · have FN : Hid (rightB false ks nv nq = false) := by
          show _ = _
          unfold rightB
          rw [← HN.out]
          simp
          intros
          omega
        go_enter Try.func12, Try.ntmps12
        go_wp2_with fail
        rw [← HW1.out]
        refine wp_region_held_drew (S := fun W => Below w1.heap.size w1 W) (by kernel_rfl) (Below.refl _ _).drew (fun hS => ?_)
        refine' wpAnyH_take (i := 0) ?h1x0id ?hsx0id ?hfx0id ?hrx0id ?hQx0id (Or.inl ⟨?hwx0id, ?hyx0id⟩) hS ?restx0id
        case h1x0id => (simp only [List.getElem?_toArray, List.getElem?_cons_zero]; rfl)
        case hsx0id | hfx0id | hrx0id => kernel_rfl
        case hQx0id => exact fun _ _ _ h => h
        case hwx0id => rfl
        case hyx0id =>
          intro W hW
          go_simp
          try with_reducible rfl
        simp only [Act.put, List.setIfInBounds_toArray, List.set_cons_succ, List.set_cons_zero]
        refine' wpAnyH_take (i := 1) ?h1x1id ?hsx1id ?hfx1id ?hrx1id ?hQx1id (Or.inl ⟨?hwx1id, ?hyx1id⟩) hS ?restx1id
        case h1x1id => (simp only [List.getElem?_toArray, List.getElem?_cons_succ, List.getElem?_cons_zero]; rfl)
        case hsx1id | hfx1id | hrx1id => kernel_rfl
        case hQx1id => exact fun _ _ _ h => h
        case hwx1id => rfl
        case hyx1id =>
          intro W hW
          have c3 := (hW.cell (p := ⟨w.heap.size, 3, none⟩) LG1.out).trans C3.out
          go_simp
          try with_reducible rfl
        simp only [Act.put, List.setIfInBounds_toArray, List.set_cons_succ, List.set_cons_zero]
        refine' wpAnyH_take (i := 2) ?h1x2id ?hsx2id ?hfx2id ?hrx2id ?hQx2id (Or.inl ⟨?hwx2id, ?hyx2id⟩) hS ?restx2id
        case h1x2id => (simp only [List.getElem?_toArray, List.getElem?_cons_succ, List.getElem?_cons_zero]; rfl)
        case hsx2id | hfx2id | hrx2id => kernel_rfl
        case hQx2id => exact fun _ _ _ h => h
        case hwx2id => rfl
        case hyx2id =>
          intro W hW
          go_simp
          try with_reducible rfl
        simp only [Act.put, List.setIfInBounds_toArray, List.set_cons_succ, List.set_cons_zero]
        refine' wpAnyH_take (i := 3) ?h1x3id ?hsx3id ?hfx3id ?hrx3id ?hQx3id (Or.inl ⟨?hwx3id, ?hyx3id⟩) hS ?restx3id
        case h1x3id => (simp only [List.getElem?_toArray, List.getElem?_cons_succ, List.getElem?_cons_zero]; rfl)
        case hsx3id | hfx3id | hrx3id => kernel_rfl
        case hQx3id => exact fun _ _ _ h => h
        case hwx3id => rfl
        case hyx3id =>
          intro W hW
          go_simp
          try with_reducible rfl
        simp only [Act.put, List.setIfInBounds_toArray, List.set_cons_succ, List.set_cons_zero]
        refine' wpAnyH_take (i := 4) ?h1x4id ?hsx4id ?hfx4id ?hrx4id ?hQx4id (Or.inl ⟨?hwx4id, ?hyx4id⟩) hS ?restx4id
        case h1x4id => (simp only [List.getElem?_toArray, List.getElem?_cons_succ, List.getElem?_cons_zero]; rfl)
        case hsx4id | hfx4id | hrx4id => kernel_rfl
        case hQx4id => exact fun _ _ _ h => h
        case hwx4id => rfl
        case hyx4id =>
          intro W hW
          have c2 := (hW.cell (p := ⟨w.heap.size, 2, none⟩) LG1.out).trans C2.out
          go_simp
          try with_reducible rfl
        simp only [Act.put, List.setIfInBounds_toArray, List.set_cons_succ, List.set_cons_zero]
        refine' wpAnyH_take (i := 5) ?h1x5id ?hsx5id ?hfx5id ?hrx5id ?hQx5id (Or.inl ⟨?hwx5id, ?hyx5id⟩) hS ?restx5id
        case h1x5id => (simp only [List.getElem?_toArray, List.getElem?_cons_succ, List.getElem?_cons_zero]; rfl)
        case hsx5id | hfx5id | hrx5id => kernel_rfl
        case hQx5id => exact fun _ _ _ h => h
        case hwx5id => rfl
        case hyx5id =>
          intro W hW
          go_simp
          try with_reducible rfl
        simp only [Act.put, List.setIfInBounds_toArray, List.set_cons_succ, List.set_cons_zero]
        refine' wpAnyH_take (i := 6) ?h1x6id ?hsx6id ?hfx6id ?hrx6id ?hQx6id (Or.inl ⟨?hwx6id, ?hyx6id⟩) hS ?restx6id
        case h1x6id => (simp only [List.getElem?_toArray, List.getElem?_cons_succ, List.getElem?_cons_zero]; rfl)
        case hsx6id | hfx6id | hrx6id => kernel_rfl
        case hQx6id => exact fun _ _ _ h => h
        case hwx6id => rfl
        case hyx6id =>
          intro W hW
          go_simp
          try with_reducible rfl
        simp only [Act.put, List.setIfInBounds_toArray, List.set_cons_succ, List.set_cons_zero]
        refine' wpAnyH_take (i := 7) ?h1x7id ?hsx7id ?hfx7id ?hrx7id ?hQx7id (Or.inl ⟨?hwx7id, ?hyx7id⟩) hS ?restx7id
        case h1x7id => (simp only [List.getElem?_toArray, List.getElem?_cons_succ, List.getElem?_cons_zero]; rfl)
        case hsx7id | hfx7id | hrx7id => kernel_rfl
        case hQx7id => exact fun _ _ _ h => h
        case hwx7id => rfl
        case hyx7id =>
          intro W hW
          go_simp
          try with_reducible rfl
        simp only [Act.put, List.setIfInBounds_toArray, List.set_cons_succ, List.set_cons_zero]
        refine' wpAnyH_take (i := 8) ?h1x8id ?hsx8id ?hfx8id ?hrx8id ?hQx8id (Or.inl ⟨?hwx8id, ?hyx8id⟩) hS ?restx8id
        case h1x8id => (simp only [List.getElem?_toArray, List.getElem?_cons_succ, List.getElem?_cons_zero]; rfl)
        case hsx8id | hfx8id | hrx8id => kernel_rfl
        case hQx8id => exact fun _ _ _ h => h
        case hwx8id => rfl
        case hyx8id =>
          intro W hW
          go_simp
          try with_reducible rfl
        simp only [Act.put, List.setIfInBounds_toArray, List.set_cons_succ, List.set_cons_zero]
        refine' wpAnyH_take (i := 9) ?h1x9id ?hsx9id ?hfx9id ?hrx9id ?hQx9id (Or.inl ⟨?hwx9id, ?hyx9id⟩) hS ?restx9id
        case h1x9id => (simp only [List.getElem?_toArray, List.getElem?_cons_succ, List.getElem?_cons_zero]; rfl)
        case hsx9id | hfx9id | hrx9id => kernel_rfl
        case hQx9id => exact fun _ _ _ h => h
        case hwx9id => rfl
        case hyx9id =>
          intro W hW
          go_simp
          try with_reducible rfl
        simp only [Act.put, List.setIfInBounds_toArray, List.set_cons_succ, List.set_cons_zero]
        refine wpAnyH_done (by kernel_rfl) ?_ _
        obtain ⟨w2, hw2⟩ : ∃ w2, w2 = w1.drew := ⟨_, rfl⟩
        have B2 : Hid (Below w1.heap.size w1 w2) := by rw [hw2]; exact (Below.refl _ _).drew
        rw [← hw2]
        clear hS hw2
        have c0 := (B2.out.cell (p := ⟨w.heap.size, 0, none⟩) LG1.out).trans C0.out
        have c1 := (B2.out.cell (p := ⟨w.heap.size, 1, none⟩) LG1.out).trans C1.out
        go_wp2_with fail
        go_ret
        exact ⟨by rw [FN.out]; rfl, B1.out.trans (B2.out.mono B1.out.size)⟩
    · have FN : Hid (rightB false ks nv nq = false) := by
        show _ = _
        unfold rightB
        rw [← HN.out]
        simp
        intros
        omega
      go_enter Try.func12, Try.ntmps12
      go_wp2_with fail
      rw [← HW1.out]
      refine wp_region_held_drew (S := fun W => Below w1.heap.size w1 W) (by kernel_rfl) (Below.refl _ _).drew (fun hS => ?_)
      refine' wpAnyH_take (i := 0) ?h1x0ie ?hsx0ie ?hfx0ie ?hrx0ie ?hQx0ie (Or.inl ⟨?hwx0ie, ?hyx0ie⟩) hS ?restx0ie
      case h1x0ie => (simp only [List.getElem?_toArray, List.getElem?_cons_zero]; rfl)
      case hsx0ie | hfx0ie | hrx0ie => kernel_rfl
      case hQx0ie => exact fun _ _ _ h => h
      case hwx0ie => rfl
      case hyx0ie =>
        intro W hW
        go_simp
        try with_reducible rfl
      simp only [Act.put, List.setIfInBounds_toArray, List.set_cons_succ, List.set_cons_zero]
      refine' wpAnyH_take (i := 1) ?h1x1ie ?hsx1ie ?hfx1ie ?hrx1ie ?hQx1ie (Or.inl ⟨?hwx1ie, ?hyx1ie⟩) hS ?restx1ie
      case h1x1ie => (simp only [List.getElem?_toArray, List.getElem?_cons_succ, List.getElem?_cons_zero]; rfl)
      case hsx1ie | hfx1ie | hrx1ie => kernel_rfl
      case hQx1ie => exact fun _ _ _ h => h
      case hwx1ie => rfl
      case hyx1ie =>
        intro W hW
        have c3 := (hW.cell (p := ⟨w.heap.size, 3, none⟩) LG1.out).trans C3.out
        go_simp
        try with_reducible rfl
      simp only [Act.put, List.setIfInBounds_toArray, List.set_cons_succ, List.set_cons_zero]
      refine' wpAnyH_take (i := 2) ?h1x2ie ?hsx2ie ?hfx2ie ?hrx2ie ?hQx2ie (Or.inl ⟨?hwx2ie, ?hyx2ie⟩) hS ?restx2ie
      case h1x2ie => (simp only [List.getElem?_toArray, List.getElem?_cons_succ, List.getElem?_cons_zero]; rfl)
      case hsx2ie | hfx2ie | hrx2ie => kernel_rfl
      case hQx2ie => exact fun _ _ _ h => h
      case hwx2ie => rfl
      case hyx2ie =>
        intro W hW
        go_simp
        try with_reducible rfl
      simp only [Act.put, List.setIfInBounds_toArray, List.set_cons_succ, List.set_cons_zero]
      refine' wpAnyH_take (i := 3) ?h1x3ie ?hsx3ie ?hfx3ie ?hrx3ie ?hQx3ie (Or.inl ⟨?hwx3ie, ?hyx3ie⟩) hS ?restx3ie
      case h1x3ie => (simp only [List.getElem?_toArray, List.getElem?_cons_succ, List.getElem?_cons_zero]; rfl)
      case hsx3ie | hfx3ie | hrx3ie => kernel_rfl
      case hQx3ie => exact fun _ _ _ h => h
      case hwx3ie => rfl
      case hyx3ie =>
        intro W hW
        go_simp
        try with_reducible rfl
      simp only [Act.put, List.setIfInBounds_toArray, List.set_cons_succ, List.set_cons_zero]
      refine' wpAnyH_take (i := 4) ?h1x4ie ?hsx4ie ?hfx4ie ?hrx4ie ?hQx4ie (Or.inl ⟨?hwx4ie, ?hyx4ie⟩) hS ?restx4ie
      case h1x4ie => (simp only [List.getElem?_toArray, List.getElem?_cons_succ, List.getElem?_cons_zero]; rfl)
      case hsx4ie | hfx4ie | hrx4ie => kernel_rfl
      case hQx4ie => exact fun _ _ _ h => h
      case hwx4ie => rfl
      case hyx4ie =>
        intro W hW
        have c2 := (hW.cell (p := ⟨w.heap.size, 2, none⟩) LG1.out).trans C2.out
        go_simp
        try with_reducible rfl
      simp only [Act.put, List.setIfInBounds_toArray, List.set_cons_succ, List.set_cons_zero]
      refine' wpAnyH_take (i := 5) ?h1x5ie ?hsx5ie ?hfx5ie ?hrx5ie ?hQx5ie (Or.inl ⟨?hwx5ie, ?hyx5ie⟩) hS ?restx5ie
      case h1x5ie => (simp only [List.getElem?_toArray, List.getElem?_cons_succ, List.getElem?_cons_zero]; rfl)
      case hsx5ie | hfx5ie | hrx5ie => kernel_rfl
      case hQx5ie => exact fun _ _ _ h => h
      case hwx5ie => rfl
      case hyx5ie =>
        intro W hW
        go_simp
        try with_reducible rfl
      simp only [Act.put, List.setIfInBounds_toArray, List.set_cons_succ, List.set_cons_zero]
      refine' wpAnyH_take (i := 6) ?h1x6ie ?hsx6ie ?hfx6ie ?hrx6ie ?hQx6ie (Or.inl ⟨?hwx6ie, ?hyx6ie⟩) hS ?restx6ie
      case h1x6ie => (simp only [List.getElem?_toArray, List.getElem?_cons_succ, List.getElem?_cons_zero]; rfl)
      case hsx6ie | hfx6ie | hrx6ie => kernel_rfl
      case hQx6ie => exact fun _ _ _ h => h
      case hwx6ie => rfl
      case hyx6ie =>
        intro W hW
        go_simp
        try with_reducible rfl
      simp only [Act.put, List.setIfInBounds_toArray, List.set_cons_succ, List.set_cons_zero]
      refine' wpAnyH_take (i := 7) ?h1x7ie ?hsx7ie ?hfx7ie ?hrx7ie ?hQx7ie (Or.inl ⟨?hwx7ie, ?hyx7ie⟩) hS ?restx7ie
      case h1x7ie => (simp only [List.getElem?_toArray, List.getElem?_cons_succ, List.getElem?_cons_zero]; rfl)
      case hsx7ie | hfx7ie | hrx7ie => kernel_rfl
      case hQx7ie => exact fun _ _ _ h => h
      case hwx7ie => rfl
      case hyx7ie =>
        intro W hW
        go_simp
        try with_reducible rfl
      simp only [Act.put, List.setIfInBounds_toArray, List.set_cons_succ, List.set_cons_zero]
      refine' wpAnyH_take (i := 8) ?h1x8ie ?hsx8ie ?hfx8ie ?hrx8ie ?hQx8ie (Or.inl ⟨?hwx8ie, ?hyx8ie⟩) hS ?restx8ie
      case h1x8ie => (simp only [List.getElem?_toArray, List.getElem?_cons_succ, List.getElem?_cons_zero]; rfl)
      case hsx8ie | hfx8ie | hrx8ie => kernel_rfl
      case hQx8ie => exact fun _ _ _ h => h
      case hwx8ie => rfl
      case hyx8ie =>
        intro W hW
        go_simp
        try with_reducible rfl
      simp only [Act.put, List.setIfInBounds_toArray, List.set_cons_succ, List.set_cons_zero]
      refine' wpAnyH_take (i := 9) ?h1x9ie ?hsx9ie ?hfx9ie ?hrx9ie ?hQx9ie (Or.inl ⟨?hwx9ie, ?hyx9ie⟩) hS ?restx9ie
      case h1x9ie => (simp only [List.getElem?_toArray, List.getElem?_cons_succ, List.getElem?_cons_zero]; rfl)
      case hsx9ie | hfx9ie | hrx9ie => kernel_rfl
      case hQx9ie => exact fun _ _ _ h => h
      case hwx9ie => rfl
      case hyx9ie =>
        intro W hW
        go_simp
        try with_reducible rfl
      simp only [Act.put, List.setIfInBounds_toArray, List.set_cons_succ, List.set_cons_zero]
      refine wpAnyH_done (by kernel_rfl) ?_ _
      obtain ⟨w2, hw2⟩ : ∃ w2, w2 = w1.drew := ⟨_, rfl⟩
      have B2 : Hid (Below w1.heap.size w1 w2) := by rw [hw2]; exact (Below.refl _ _).drew
      rw [← hw2]
      clear hS hw2
      have c0 := (B2.out.cell (p := ⟨w.heap.size, 0, none⟩) LG1.out).trans C0.out
      have c1 := (B2.out.cell (p := ⟨w.heap.size, 1, none⟩) LG1.out).trans C1.out
      go_wp2_with fail
      go_ret
      exact ⟨by rw [FN.out]; rfl, B1.out.trans (B2.out.mono B1.out.size)⟩
end Go.Proofs.Ytnifaldgofmciaa
