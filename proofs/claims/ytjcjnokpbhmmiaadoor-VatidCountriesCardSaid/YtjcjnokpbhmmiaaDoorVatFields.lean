/- The member states, told by the program. -/
import Derived.Test.YtjcjnokpbhmmiaaDoorVatMbr
namespace Go.Proofs.YtjcjnokpbhmmiaaDoor
open Go.RowKit Go.Maps
set_option maxRecDepth 1000000

/-- the library's table of blanks is what it was laid with -/
def SpL (w : World) : Prop := 0 < w.heap.size ∧ ∀ c : Nat, c < 256 → w.cell? ⟨0, c, none⟩ = some (.int .u8 (if Lib.isSp (UInt8.ofNat c) then 1 else 0))
theorem SpL.below {w w' : World} (h : SpL w) (hb : Below w.heap.size w w') : SpL w' :=
  ⟨Nat.lt_of_lt_of_le h.1 hb.size, fun c hc => (hb.cell (p := ⟨0, c, none⟩) h.1).trans (h.2 c hc)⟩
theorem mems_fields : (Lib.fields memsB.data.toList).map (fun l => (⟨l.toArray⟩ : ByteArray)) = tabL.map (·.1) := by decide +kernel
theorem mems_len : (Lib.fields memsB.data.toList).length = (tabL.map (·.1)).length := by decide +kernel
theorem mems_ascii : ∀ b ∈ memsB.data.toList, b.toNat < 128 := by decide +kernel
theorem mems_small : ∀ b ∈ tabL.map (·.1), b.size ≤ 1000 := by decide +kernel
theorem fields_told (w : World) (hS : SpL w) : Calls Tryd.prog 19 #[.string memsB] w (ToldL w (tabL.map (·.1))) := by
  have h := Any.strings_Fields_core Tryd.lays157 (by kernel_rfl) memsB w (by decide +kernel) (fun j b hj => mems_ascii b (List.mem_of_getElem? hj)) hS.2
  refine Calls.mono h fun e w' ⟨he, hw⟩ => ?_
  subst hw
  rw [mems_len] at he
  refine ⟨some ⟨w.heap.size, 0, none⟩, _, he, ?_, (Below.refl _ _).alloc (Nat.le_refl _) _⟩
  intro i hi
  refine ⟨_, rfl, by simp, ?_, mems_small _ (List.getElem_mem hi)⟩
  have e : (Lib.fields memsB.data.toList).map (fun l => Value.string ⟨l.toArray⟩) = (tabL.map (·.1)).map Value.string := by
    rw [← mems_fields, List.map_map]; rfl
  rw [e]
  have ea : ({ block := w.heap.size, off := 0 } : Addr).add i = ⟨w.heap.size, i, none⟩ := by simp [Addr.add]; omega
  rw [ea, World.cell?_alloc_new]
  rw [List.getElem?_toArray, List.getElem?_map, List.getElem?_eq_getElem hi]
  rfl
set_option maxHeartbeats 1000000 in
theorem code_members (w : World) (hS : SpL w) : Calls Tryd.prog 12 #[] w (ToldL w (tabL.map (·.1))) := by
  have HF : Hid (Calls Tryd.prog 19 #[.string ({ data := #[65, 84, 32, 66, 69, 32, 66, 71, 32, 67, 89, 32, 67, 90, 32, 68, 69, 32, 68, 75, 32, 69, 69, 32, 69, 76, 32, 69, 83, 32, 70, 73, 32, 70, 82, 32, 72, 82, 32, 72, 85, 32, 73, 69, 32, 73, 84, 32, 76, 84, 32, 76, 85, 32, 76, 86, 32, 77, 84, 32, 78, 76, 32, 80, 76, 32, 80, 84, 32, 82, 79, 32, 83, 69, 32, 83, 73, 32, 83, 75] } : ByteArray)] w (ToldL w (tabL.map (·.1)))) := Lib.hid (fields_told w hS)
  clear hS
  generalize tabL.map (·.1) = L at *
  go_enter Tryd.func12, Tryd.ntmps12
  go_wp2_with (go_at_call 19; refine HF.out.mono ?_; rintro e w1 ⟨A, n, rfl, hs, hb⟩; have HS := Lib.hid hs; have HB := Lib.hid hb; clear hs hb)
  go_ret
  exact ⟨A, n, rfl, HS.out, HB.out⟩
end Go.Proofs.YtjcjnokpbhmmiaaDoor
