/- What the program's own functions on sums give: Sum, Join, the sum's bytes, Wrap; a slice copied. Two steps of a walk through a statement whose order is open: one operation taken first; one call that comes up alone. -/
import Derived.Test.YtmgonokhgijgoaaJ6
import Derived.Lib.LazyBuf
import Derived.Deep.RegionHeld3
namespace Go.Proofs.Ytmgonokhgijgoaa
open Go.RowKit
set_option maxRecDepth 100000

set_option maxHeartbeats 400000 in
theorem code_sum (l : Text) (A : Option Addr) (cap : Nat) (w : World) (hm : l.length ≤ 140737488355328) (hT : Txt w A l) :
    Calls Try.prog 84 #[.slice A l.length cap] w fun e w' => e = .returned (.int .u32 (reg (Crc.sumT l))) ∧ Below w.heap.size w w' := by
  have H := code_on 0#32 l A cap w hm hT
  rw [sum_zero, reg_nought] at H
  have HT := Lib.hid H
  clear H hT
  go_enter Try.func84, Try.ntmps84
  go_wp2_with (go_at_call 92; refine HT.out.mono ?_; rintro e w1 ⟨rfl, hb1⟩)
  go_ret
  exact ⟨rfl, hb1⟩

theorem mul_add (p q : Nat) : Crc.mul (Crc.steps p Crc.one) (Crc.steps q Crc.one) = Crc.steps (q + p) Crc.one := by
  rw [Crc.mul_steps, ← Crc.steps_add]
theorem steps_same {p q : Nat} (x : Crc.Reg) (h : p = q) : Crc.steps p x = Crc.steps q x := by rw [h]
theorem one_reg : (2147483648 : Int) = reg (Crc.steps 0 Crc.one) := rfl
theorem eight_reg : (8388608 : Int) = reg (Crc.steps (8 * 1) Crc.one) := by decide +kernel

theorem four_length (x : Crc.Reg) : (Crc.four x).length = 4 := rfl
set_option maxHeartbeats 400000 in
theorem code_sumBytes (l : Text) (A : Option Addr) (cap : Nat) (w : World) (hm : l.length ≤ 140737488355328) (hT : Txt w A l) :
    Calls Try.prog 98 #[.slice A l.length cap] w (Made w (Crc.four (Crc.sumT l))) := by
  have HS := Lib.hid (code_sum l A cap w hm hT)
  clear hT
  go_enter Try.func98, Try.ntmps98
  go_wp2_with (go_at_call 84; refine HS.out.mono ?_; rintro e w1 ⟨rfl, hb1⟩)
  go_ret
  have ho := four_own (Crc.sumT l) w1
  exact ⟨_, 4, rfl, ⟨ho.1, by
    rcases ho.2 with h | ⟨g, c, cur, h1, h2, h3⟩
    · exact .inl h
    · exact .inr ⟨g, c, cur, h1, Nat.le_trans hb1.size h2, h3⟩⟩, hb1.alloc hb1.size _⟩

set_option maxHeartbeats 1000000 in
theorem code_wrap (l : Text) (A : Option Addr) (cap : Nat) (w : World) (hm : l.length ≤ 140737488351232) (hT : Txt w A l) (hA : A = none → l = []) :
    Calls Try.prog 95 #[.slice A l.length cap] w (Made w (wrapT l)) := by
  have HS := Lib.hid (code_sumBytes l A cap w (by omega) hT)
  have HT := Lib.hid hT
  have HN := Lib.hid hA
  clear hT hA
  go_enter Try.func95, Try.ntmps95
  go_wp2_with (first | (go_at_call 98; refine HS.out.mono ?_; rintro e w1 ⟨g1, c1, rfl, ho1, hb1⟩; have HO := Lib.hid ho1; clear ho1) | (at_builtin; refine wpList_append_text rfl _ _ rfl rfl w.heap.size _ 4 ((Crc.four (Crc.sumT l)).map cellOf) rfl HO.out A cap l rfl (HT.out.below hb1) HN.out (by omega) hb1.size ?_; intro v' w' hown hg hat))
  go_ret
  exact made_of rfl (HO.out.lt _ rfl).1 (by rw [wrapT_length]; omega) (by rw [wrapT_length]; simpa [wrapT] using hown) hb1 hg

theorem made_of2 {w w1 w' : World} {l : Text} {g : Nat} {v v' : Value} {n c : Nat} (hg0 : v = .slice (some ⟨g, 0, none⟩) n c) (hB0 : w.heap.size ≤ g) (hl : v'.ownBlock ≠ none)
    (hown : w'.ownsRow w.heap.size 5 1 v' l.length (l.map cellOf)) (hb : Below w.heap.size w w1) (hg : w1.grownBy w' v.ownBlock) : Made w l (.returned v') w' := by
  rcases hown.2 with ⟨rfl, _⟩ | ⟨g', c', cur, rfl, h3⟩
  · exact absurd rfl hl
  · refine ⟨g', c', rfl, hown, hb.grown hg hb.size fun k hk => ?_⟩
    subst hg0
    simp [Value.ownBlock] at hk
    omega
end Go.Proofs.Ytmgonokhgijgoaa

namespace Go.Proofs.Ytmgonokhgijgoaa
set_option maxRecDepth 100000

section
variable {P : Program} {ops : Array Oper} {Q : Exit → Act → World → Prop} {md : Region.Mode} {S : World → Prop}

/-- an operation that yields in every world that meets S, or is not wanted, is taken first -/
theorem takeH {i : Nat} {dst : Option Tmp} {op : Op} {ty : TypeId} {pos : String} {after : Array Edge} {guard : Option (Nat × Bool)} {v : Value} {fuel : Nat} {listed : Array Bool} {a : Act} {w : World}
    (hi : ops[i]? = some { dst := dst, op := op, type := ty, pos := pos, after := after, guard := guard })
    (hs : Region.noSelect ops = true) (hf : Region.free md ops listed i = true) (hr : (Region.ready md ops listed).contains i = true)
    (hQ : ∀ c a w, Q (.panic c) (a.put dst v) w → Q (.panic c) a w)
    (hy : YieldsIf P ops S { dst := dst, op := op, type := ty, pos := pos, after := after, guard := guard } v a) (hS : S w)
    (h : wpAnyH P md ops Q S fuel (listed.setIfInBounds i true) (a.put dst v) w) : wpAnyH P md ops Q S (fuel + 1) listed a w :=
  wpAnyH_take hi hs hf hr hQ hy hS h

theorem takeP {i : Nat} {dst : Option Tmp} {op : Op} {ty : TypeId} {pos : String} {after : Array Edge} {guard : Option (Nat × Bool)} {fuel : Nat} {listed : Array Bool} {a : Act} {w : World} (v : Value)
    (hi : ops[i]? = some { dst := dst, op := op, type := ty, pos := pos, after := after, guard := guard })
    (hy : YieldsIf P ops S { dst := dst, op := op, type := ty, pos := pos, after := after, guard := guard } v a)
    (h : wpAnyH P md ops Q S fuel (listed.setIfInBounds i true) (a.put dst v) w)
    (hs : Region.noSelect ops = true := by kernel_rfl) (hf : Region.free md ops listed i = true := by kernel_rfl) (hr : (Region.ready md ops listed).contains i = true := by kernel_rfl)
    (hQ : ∀ c a w, Q (.panic c) (a.put dst v) w → Q (.panic c) a w := by exact fun _ _ _ h => h) (hS : S w := by assumption) : wpAnyH P md ops Q S (fuel + 1) listed a w :=
  takeH hi hs hf hr hQ hy hS h
theorem pA {α : Type} (l : List α) (i : Nat) (a : α) : l.toArray.setIfInBounds i a = (l.set i a).toArray := List.setIfInBounds_toArray ..
theorem pB {α : Type} {x b : α} {xs : List α} : (x :: xs).set 0 b = b :: xs := List.set_cons_zero
theorem pC {α : Type} {x b : α} {xs : List α} {n : Nat} : (x :: xs).set (n + 1) b = x :: xs.set n b := List.set_cons_succ
/-- a call that comes up alone -/
theorem aloneH {i : Nat} {dst : Option Tmp} {op : Op} {ty : TypeId} {pos : String} {after : Array Edge} {guard : Option (Nat × Bool)} {fuel : Nat} {listed : Array Bool} {a : Act} {w : World}
    (hi : ops[i]? = some { dst := dst, op := op, type := ty, pos := pos, after := after, guard := guard })
    (hr : Region.ready md ops listed = [i])
    (h : ∀ K' : Act → World → Prop, Shut (∀ a w, S w → (S w → wpAnyH P md ops Q S fuel (listed.setIfInBounds i true) a w) → K' a w) →
      if Region.wanted { dst := dst, op := op, type := ty, pos := pos, after := after, guard := guard } (yielded ops a.tmps) = true then
        Oper.wp P { dst := dst, op := op, type := ty, pos := pos, after := after, guard := guard } a w K' Q else K' (a.put dst undef) w) :
    wpAnyH P md ops Q S (fuel + 1) listed a w :=
  wpAnyH_ready hr (by simp) (AllReadyH.cons hi h AllReadyH.nil)
/-- what is held may be said more strongly from here on -/
theorem wpAnyH_imp {S' : World → Prop} (himp : ∀ w, S' w → S w) : ∀ (fuel : Nat) (listed : Array Bool) (a : Act) (w : World), wpAnyH P md ops Q S' fuel listed a w → wpAnyH P md ops Q S fuel listed a w
  | 0, _, _, _, h => h
  | fuel + 1, _, _, _, h => ⟨h.1, fun i hi => wpOp_mono (fun a' w' h' => ⟨himp w' h'.1, wpAnyH_imp himp fuel _ a' w' h'.2⟩) (h.2 i hi)⟩
end
end Go.Proofs.Ytmgonokhgijgoaa
