/- Documents that are there: who is made; what a set that no call made tells; what a credit takes back. -/
import Derived.Test.YtfjecohokmelfaaIdA
namespace Go.Proofs.Ytfjecohokmelfaa
open Go.RowKit
set_option maxRecDepth 100000
set_option linter.unusedSimpArgs false
set_option linter.unusedVariables false
attribute [local go_sem] Oper.semAt_some

theorem cells2 {W : World} {g : Nat} {a b : Value} {t : TypeId} (h : W.heap[g]? = some (.cells #[a, b] t (0, 0))) : W.cell? ⟨g, 0, none⟩ = some a ∧ W.cell? ⟨g, 1, none⟩ = some b :=
  ⟨cell_of_row W g 0 _ _ _ h, cell_of_row W g 1 _ _ _ h⟩
theorem neq_map (b : Nat) (W : World) : Sem.run Try.prog (binOp .neq 45 (.map (some b)) (.map none)) W = .ok (.bool true) W := by
  first | rfl | (simp [binOp]; done) | (unfold binOp; rfl)
theorem neq_map0 (W : World) : Sem.run Try.prog (binOp .neq 45 (.map none) (.map none)) W = .ok (.bool false) W := by
  first | rfl | (simp [binOp]; done) | (unfold binOp; rfl)
theorem code_made (w : World) (P bm : Nat) (c0 : w.cell? ⟨P, 0, none⟩ = some (.map (some bm))) : Calls Try.prog 22 #[.pointer (some ⟨P, 0, none⟩)] w fun e w' => e = .returned (.bool true) ∧ w = w' := by
  have hq := neq_map bm w
  go_enter Try.func22, Try.ntmps22
  go_wp2
  go_ret
  exact ⟨rfl, rfl⟩
theorem code_made_nil (w : World) : Calls Try.prog 22 #[.pointer none] w fun e w' => e = .returned (.bool false) ∧ w = w' := by
  go_enter Try.func22, Try.ntmps22
  go_wp2
  go_ret
  exact ⟨rfl, rfl⟩
theorem code_made_bare (w : World) (P : Nat) (c0 : w.cell? ⟨P, 0, none⟩ = some (.map none)) : Calls Try.prog 22 #[.pointer (some ⟨P, 0, none⟩)] w fun e w' => e = .returned (.bool false) ∧ w = w' := by
  have hq := neq_map0 w
  go_enter Try.func22, Try.ntmps22
  go_wp2
  go_ret
  exact ⟨rfl, rfl⟩
/-- not made by a call -/
def NotMade (p : Value) (w : World) : Prop := ∀ W, Below w.heap.size w W → Calls Try.prog 22 #[p] W fun e w' => e = .returned (.bool false) ∧ W = w'
theorem NotMade.on {p : Value} {w w' : World} (h : NotMade p w) (hb : Below w.heap.size w w') : NotMade p w' := fun W hW => h W (below_then hb hW)
theorem len_not {p : Value} {w : World} (h : NotMade p w) : Calls Try.prog 18 #[p] w fun e w' => e = .returned (.int .i64 0) ∧ w = w' := by
  have HM := Lib.hid (h w (below_same w))
  clear h
  go_enter Try.func18, Try.ntmps18
  go_wp2_with (go_at_call 22; refine HM.out.mono ?_; rintro e w1 ⟨rfl, rfl⟩)
  go_ret
  exact ⟨rfl, rfl⟩
theorem credits_not {p : Value} {w : World} (s : ByteArray) (h : NotMade p w) : Calls Try.prog 16 #[p, .string s] w fun e w' => e = .returned (.slice none 0 0) ∧ w = w' := by
  have HM := Lib.hid (h w (below_same w))
  clear h
  go_enter Try.func16, Try.ntmps16
  go_wp2_with (go_at_call 22; refine HM.out.mono ?_; rintro e w1 ⟨rfl, rfl⟩)
  go_ret
  exact ⟨rfl, rfl⟩
theorem check_not {p : Value} {w : World} (d : DocV) (h : NotMade p w) : Calls Try.prog 9 #[p, docVal d] w fun e w' => e = .returned (.int .i64 1) ∧ Below w.heap.size w w' := by
  have HM := Lib.hid (fun o => h (w.alloc o) (below_alloc w o))
  have HB := Lib.hid (fun o => below_alloc w o)
  unfold docVal docC
  clear h
  go_enter Try.func9, Try.ntmps9
  go_wp2_with (go_at_call 22; refine (HM.out _).mono ?_; rintro e w1 ⟨rfl, rfl⟩)
  go_ret
  exact ⟨rfl, HB.out _⟩
theorem code_isAny (d : DocV) (w : World) : Calls Try.prog 25 #[docVal d] w fun e w' => e = .returned (.bool true) ∧ Below w.heap.size w w' := by
  have HB := Lib.hid (fun o => below_alloc w o)
  unfold docVal docC
  go_enter Try.func25, Try.ntmps25
  go_wp2
  go_ret
  exact ⟨rfl, HB.out _⟩
end Go.Proofs.Ytfjecohokmelfaa
