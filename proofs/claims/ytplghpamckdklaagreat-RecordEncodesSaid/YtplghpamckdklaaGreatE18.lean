/- Currencies: which texts are one: what the closure's search says, and the program's. The member states and their forms, as a table. The program's own table of forms, as it is made. -/
import Derived.Test.YtplghpamckdklaaGreatE17
import Derived.WalkMore
import Derived.Test.YtplghpamckdklaaGreatE4
import Derived.Maps.Own
import Derived.Maps.OwnOps
import Derived.Maps.OwnSet
import Derived.Maps.Views
namespace Go.Proofs.YtplghpamckdklaaGreat
open Go.RowKit
set_option maxRecDepth 100000
set_option linter.unusedSimpArgs false
set_option linter.unusedVariables false

theorem decode_letter (s : ByteArray) (i : Nat) : Vat.letter (Utf8.decode s i).1 = Vat.letter (s.get! i).toNat ∧ (Vat.letter (s.get! i).toNat = true → (Utf8.decode s i).2 = 1) := by
 unfold Utf8.decode
 simp only [Nat.add_zero]
 by_cases h : (s.get! i).toNat < 128
 · rw [if_pos h]
   exact ⟨rfl, fun _ => rfl⟩
 · rw [if_neg h]
   have hn : Vat.letter (s.get! i).toNat = false := by
    unfold Vat.letter
    simp only [Bool.and_eq_false_iff, decide_eq_false_iff_not]
    right
    omega
   rw [hn]
   have big : ∀ c : Nat, 128 ≤ c → Vat.letter c = false := fun c hc => by
    unfold Vat.letter
    simp only [Bool.and_eq_false_iff, decide_eq_false_iff_not]
    right
    omega
   refine ⟨?_, fun h => absurd h (by simp)⟩
   repeat' split
   all_goals
    refine big _ ?_
    first
     | (simp only [Utf8.runeError]; omega)
     | (simp only [ge_iff_le, Bool.and_eq_true, decide_eq_true_eq] at *; omega)
/-- the search of currency's closure finds nothing in three signs just if they are letters -/
theorem cur_find {s : ByteArray} (h : s.size = 3) : decide (0 ≤ Lib.idxFunc (fun r => !Vat.letter r) true s) = !currB s := by
 obtain ⟨⟨l⟩⟩ := s
 match l, h with
 | [a, b, c], _ =>
   have d0 := decode_letter ⟨⟨[a, b, c]⟩⟩ 0
   have d1 := decode_letter ⟨⟨[a, b, c]⟩⟩ 1
   have d2 := decode_letter ⟨⟨[a, b, c]⟩⟩ 2
   rw [show (⟨⟨[a, b, c]⟩⟩ : ByteArray).get! 0 = a from rfl] at d0
   rw [show (⟨⟨[a, b, c]⟩⟩ : ByteArray).get! 1 = b from rfl] at d1
   rw [show (⟨⟨[a, b, c]⟩⟩ : ByteArray).get! 2 = c from rfl] at d2
   have hv : currB ⟨⟨[a, b, c]⟩⟩ = (Vat.letter a.toNat && (Vat.letter b.toNat && Vat.letter c.toNat)) := rfl
   have hz : (⟨⟨[a, b, c]⟩⟩ : ByteArray).size = 3 := rfl
   rw [hv]
   unfold Lib.idxFunc
   rw [hz]
   generalize (⟨⟨[a, b, c]⟩⟩ : ByteArray) = s at d0 d1 d2 hz
   clear hv
   unfold Lib.idxFuncFrom
   rw [if_pos (by omega), d0.1]
   cases h0 : Vat.letter a.toNat with
   | false => simp
   | true =>
     rw [if_neg (by simp), d0.2 h0]
     unfold Lib.idxFuncFrom
     rw [if_pos (by omega), Nat.zero_add, d1.1]
     cases h1 : Vat.letter b.toNat with
     | false => simp
     | true =>
       rw [if_neg (by simp), d1.2 h1]
       unfold Lib.idxFuncFrom
       rw [if_pos (by omega), show 1 + 1 = 2 from rfl, d2.1]
       cases h2 : Vat.letter c.toNat with
       | false => simp
       | true =>
         rw [if_neg (by simp)]
         simp [Lib.idxFuncFrom]
theorem code_cur1 (r : Nat) (w : World) : Calls Tryz.prog 64 #[.int .i32 (r : Int)] w fun e w' => e = .returned (.bool (!Vat.letter r)) ∧ w = w' := by
 go_enter Tryz.func64, Tryz.ntmps64
 go_wp2
 all_goals
  go_ret
  refine ⟨ret_bool ?_, rfl⟩
  unfold Vat.letter
  rw [Bool.eq_iff_iff]
  simp
  try omega
theorem cur_pred (w : World) : PredAt Tryz.prog 64 #[] encR (fun r => !Vat.letter r) w := fun W x _ => (code_cur1 x W).mono fun e w' h => ⟨h.1, 0, h.2.symm⟩
theorem code_isCurrency (s : ByteArray) (w : World) (h : s.size ≤ 9223372036854775807) : Calls Tryz.prog 33 #[.string s] w fun e w' => e = .returned (.bool (currB s)) ∧ Below w.heap.size w w' := by
 have h2 : (s.size : Int) ≤ 9223372036854775807 := by omega
 by_cases h0 : s.size = 3
 · have HF := cur_find h0
   have h3 : (s.size : Int) = 3 := by omega
   have HC : Hid (∀ W, Calls Tryz.prog 63 #[.string s, .func (.func 64) #[] #[]] W fun e w' => e = .returned (.bool (!currB s)) ∧ Below W.heap.size W w') := Lib.hid (fun W => by rw [← HF]; exact Tryz.strings_ContainsFunc 64 #[] (fun _ _ => rfl) _ s W (cur_pred W))
   clear HF h0
   go_enter Tryz.func33, Tryz.ntmps33
   go_wp2_with (go_at_call 63; refine (HC.out _).mono ?_; rintro e w1 ⟨rfl, hb⟩; have HB := Lib.hid hb; clear hb)
   go_ret
   exact ⟨ret_bool (by simp), HB.out⟩
 · rw [curr_not h0]
   have h3 : ((s.size : Int) == 3) = false := beq_false_of_ne (by omega)
   clear h0
   go_enter Tryz.func33, Tryz.ntmps33
   go_wp2
   go_ret
   exact ⟨rfl, Below.refl _ _⟩
end Go.Proofs.YtplghpamckdklaaGreat

namespace Go.Proofs.YtplghpamckdklaaGreat
open Go.RowKit Go.Maps
set_option maxRecDepth 1000000

/-- the member states' forms -/
def tabL : List (ByteArray × List ByteArray) := [
 (⟨#[65, 84]⟩, [⟨#[85, 57, 57, 57, 57, 57, 57, 57, 57]⟩]),
 (⟨#[66, 69]⟩, [⟨#[48, 57, 57, 57, 57, 57, 57, 57, 57, 57]⟩, ⟨#[49, 57, 57, 57, 57, 57, 57, 57, 57, 57]⟩]),
 (⟨#[66, 71]⟩, [⟨#[57, 57, 57, 57, 57, 57, 57, 57, 57]⟩, ⟨#[57, 57, 57, 57, 57, 57, 57, 57, 57, 57]⟩]),
 (⟨#[67, 89]⟩, [⟨#[57, 57, 57, 57, 57, 57, 57, 57, 65]⟩]),
 (⟨#[67, 90]⟩, [⟨#[57, 57, 57, 57, 57, 57, 57, 57]⟩, ⟨#[57, 57, 57, 57, 57, 57, 57, 57, 57]⟩, ⟨#[57, 57, 57, 57, 57, 57, 57, 57, 57, 57]⟩]),
 (⟨#[68, 69]⟩, [⟨#[57, 57, 57, 57, 57, 57, 57, 57, 57]⟩]),
 (⟨#[68, 75]⟩, [⟨#[57, 57, 57, 57, 57, 57, 57, 57]⟩]),
 (⟨#[69, 69]⟩, [⟨#[57, 57, 57, 57, 57, 57, 57, 57, 57]⟩]),
 (⟨#[69, 76]⟩, [⟨#[57, 57, 57, 57, 57, 57, 57, 57, 57]⟩]),
 (⟨#[69, 83]⟩, [⟨#[88, 57, 57, 57, 57, 57, 57, 57, 88]⟩]),
 (⟨#[70, 73]⟩, [⟨#[57, 57, 57, 57, 57, 57, 57, 57]⟩]),
 (⟨#[70, 82]⟩, [⟨#[88, 88, 57, 57, 57, 57, 57, 57, 57, 57, 57]⟩]),
 (⟨#[72, 82]⟩, [⟨#[57, 57, 57, 57, 57, 57, 57, 57, 57, 57, 57]⟩]),
 (⟨#[72, 85]⟩, [⟨#[57, 57, 57, 57, 57, 57, 57, 57]⟩]),
 (⟨#[73, 69]⟩, [⟨#[57, 43, 57, 57, 57, 57, 57, 65]⟩, ⟨#[57, 57, 57, 57, 57, 57, 57, 65, 65]⟩]),
 (⟨#[73, 84]⟩, [⟨#[57, 57, 57, 57, 57, 57, 57, 57, 57, 57, 57]⟩]),
 (⟨#[76, 84]⟩, [⟨#[57, 57, 57, 57, 57, 57, 57, 57, 57]⟩, ⟨#[57, 57, 57, 57, 57, 57, 57, 57, 57, 57, 57, 57]⟩]),
 (⟨#[76, 85]⟩, [⟨#[57, 57, 57, 57, 57, 57, 57, 57]⟩]),
 (⟨#[76, 86]⟩, [⟨#[57, 57, 57, 57, 57, 57, 57, 57, 57, 57, 57]⟩]),
 (⟨#[77, 84]⟩, [⟨#[57, 57, 57, 57, 57, 57, 57, 57]⟩]),
 (⟨#[78, 76]⟩, [⟨#[57, 57, 57, 57, 57, 57, 57, 57, 57, 66, 57, 57]⟩]),
 (⟨#[80, 76]⟩, [⟨#[57, 57, 57, 57, 57, 57, 57, 57, 57, 57]⟩]),
 (⟨#[80, 84]⟩, [⟨#[57, 57, 57, 57, 57, 57, 57, 57, 57]⟩]),
 (⟨#[82, 79]⟩, [⟨#[57, 57]⟩, ⟨#[57, 57, 57]⟩, ⟨#[57, 57, 57, 57]⟩, ⟨#[57, 57, 57, 57, 57]⟩, ⟨#[57, 57, 57, 57, 57, 57]⟩, ⟨#[57, 57, 57, 57, 57, 57, 57]⟩, ⟨#[57, 57, 57, 57, 57, 57, 57, 57]⟩, ⟨#[57, 57, 57, 57, 57, 57, 57, 57, 57]⟩, ⟨#[57, 57, 57, 57, 57, 57, 57, 57, 57, 57]⟩]),
 (⟨#[83, 69]⟩, [⟨#[57, 57, 57, 57, 57, 57, 57, 57, 57, 57, 57, 57]⟩]),
 (⟨#[83, 73]⟩, [⟨#[57, 57, 57, 57, 57, 57, 57, 57]⟩]),
 (⟨#[83, 75]⟩, [⟨#[57, 57, 57, 57, 57, 57, 57, 57, 57, 57]⟩])]
/-- what stands at a key so far: the key, its forms, the block of these -/
structure Ent where
 k : ByteArray
 l : List ByteArray
 g : Nat
def rdS : Value → Option (DataW Unit × List MemPlace)
 | .slice none 0 0 => some (.nil, [])
 | .slice (some ⟨g, 0, none⟩) n c => some (.agg [.lit (.int .i64 g), .lit (.int .i64 n), .lit (.int .i64 c)], [])
 | _ => none
def encE (e : Ent) : DataW Unit := .agg [.lit (.int .i64 e.g), .lit (.int .i64 e.l.length), .lit (.int .i64 e.l.length)]
def datE (E : List Ent) : DataW Unit := E.foldl (fun D e => D.put (.string e.k.data.toList) (encE e)) (.map [])
theorem rdS_inv {v : Value} {e : Ent} {ps : List MemPlace} (h : rdS v = some (encE e, ps)) : v = .slice (some ⟨e.g, 0, none⟩) e.l.length e.l.length := by
 unfold rdS at h
 split at h
 · simp [encE] at h
 · rename_i g n c
   injection h with h
   injection h with h _
   simp [encE] at h
   obtain ⟨h1, h2, h3⟩ := h
   have h1' : g = e.g := by omega
   have h2' : n = e.l.length := by omega
   have h3' : c = e.l.length := by omega
   subst h1' h2' h3'
   rfl
 · cases h
theorem rdS_nil {v : Value} {ps : List MemPlace} (h : rdS v = some (.nil, ps)) : v = .slice none 0 0 := by
 unfold rdS at h
 split at h
 · rfl
 · injection h with h
   injection h with h _
   cases h
 · cases h
theorem datE_map (E : List Ent) : IsMap (datE E) := by
 unfold datE
 suffices h : ∀ D : DataW Unit, IsMap D → IsMap (E.foldl (fun D e => D.put (.string e.k.data.toList) (encE e)) D) from h _ isMap_empty
 induction E with
 | nil => exact fun _ h => h
 | cons e E ih => exact fun D h => ih _ (h.put _ _)
theorem datE_snoc (E : List Ent) (e : Ent) : datE (E ++ [e]) = (datE E).put (.string e.k.data.toList) (encE e) := by
 unfold datE; rw [List.foldl_append]; rfl
theorem str_eq {a b : ByteArray} : a.data.toList = b.data.toList → a = b := by
 obtain ⟨⟨l⟩⟩ := a
 obtain ⟨⟨m⟩⟩ := b
 intro h
 have : l = m := h
 rw [this]
theorem datE_none (c : ByteArray) : ∀ E : List Ent, (∀ e ∈ E, e.k ≠ c) → (datE E).atKey (.string c.data.toList) .nil = .nil := by
 intro E
 suffices h : ∀ (E : List Ent) (D : DataW Unit), (∀ e ∈ E, e.k ≠ c) → (E.foldl (fun D e => D.put (.string e.k.data.toList) (encE e)) D).atKey (.string c.data.toList) .nil = D.atKey (.string c.data.toList) .nil from fun h2 => h E _ h2
 intro E
 induction E with
 | nil => exact fun _ _ => rfl
 | cons e E ih =>
   intro D h
   rw [List.foldl_cons, ih _ (fun x hx => h x (List.mem_cons_of_mem _ hx))]
   refine atKey_put_other (fun hq => ?_) _ _
   injection hq with hq
   exact h e (List.mem_cons_self ..) (str_eq hq.symm)
theorem datE_some (e : Ent) : ∀ E : List Ent, e ∈ E → (E.map (·.k)).Nodup → (datE E).atKey (.string e.k.data.toList) .nil = encE e := by
 intro E
 suffices h : ∀ (E : List Ent) (D : DataW Unit), IsMap D → e ∈ E → (E.map (·.k)).Nodup → (E.foldl (fun D e => D.put (.string e.k.data.toList) (encE e)) D).atKey (.string e.k.data.toList) .nil = encE e from fun h1 h2 => h E _ isMap_empty h1 h2
 intro E
 induction E with
 | nil => intro D _ h; simp at h
 | cons x E ih =>
   intro D hD hm hn
   rw [List.map_cons, List.nodup_cons] at hn
   rw [List.foldl_cons]
   rcases List.mem_cons.1 hm with rfl | hm
   · have h2 : ∀ y ∈ E, y.k ≠ e.k := fun y hy hq => hn.1 (by rw [← hq]; exact List.mem_map_of_mem hy)
     have h3 : ∀ (E : List Ent) (D : DataW Unit), (∀ y ∈ E, y.k ≠ e.k) → (E.foldl (fun D e => D.put (.string e.k.data.toList) (encE e)) D).atKey (.string e.k.data.toList) .nil = D.atKey (.string e.k.data.toList) .nil := by
      intro E
      induction E with
      | nil => exact fun _ _ => rfl
      | cons z E ih2 =>
        intro D h
        rw [List.foldl_cons, ih2 _ (fun x hx => h x (List.mem_cons_of_mem _ hx))]
        refine atKey_put_other (fun hq => ?_) _ _
        injection hq with hq
        exact h z (List.mem_cons_self ..) (str_eq hq.symm)
     rw [h3 E _ h2]
     exact atKey_put_same hD (by simp [WideAt.IsKeyLit]) _ _
   · exact ih _ (hD.put _ _) hm hn.2

/-- the map so far -/
def TabI (w0 : World) (b : Nat) (E : List Ent) (w : World) : Prop :=
 w.ownsMap Tryz.prog 9 rdS b E.length (datE E) ∧ (∀ e ∈ E, e.g ≠ b ∧ w.heap[e.g]? = some (.cells (e.l.map .string).toArray 9 (0, 0))) ∧ Below w0.heap.size w0 w ∧ w0.heap.size ≤ b
theorem tab_size : ∀ p ∈ tabL, p.1.size ≤ maxLen := by
 have h : ∀ p ∈ tabL, p.1.size ≤ 2 := by decide +kernel
 intro p hp
 have := h p hp
 unfold maxLen; omega
theorem key_law : Keyed Tryz.prog 9 := string_keyed Tryz.underlying9
theorem tab_made (w : World) : TabI w w.heap.size [] (w.alloc (.map #[] 0)) :=
 ⟨World.ownsMap_made _ _ _ _, fun e he => by simp at he, (Below.refl _ _).alloc (Nat.le_refl _) _, Nat.le_refl _⟩
theorem wpList_insert_tab {w0 w : World} {ops : Array Oper} {rest : List Oper} {o : Oper} {a : Act} {Q : Exit → Act → World → Prop}
 (hg : o.guard = none) (m x v : Operand) (hop : o.op = Op.insert 104 m x v) (b : Nat) (E : List Ent) (hm : a.eval m = .map (some b)) (wb : World) (cs : Array Value) (hw : w = wb.alloc (.cells cs 9)) (hE : TabI w0 b E wb)
 (key : ByteArray) (l : List ByteArray) (hk : key.size ≤ maxLen) (hn : E.length < maxLen) (hx : a.eval x = .string key) (hcs : cs = (l.map .string).toArray) (g : Nat) (hgq : wb.heap.size = g) (hv : a.eval v = .slice (some ⟨g, 0, none⟩) l.length l.length)
 (hK : ∀ w', TabI w0 b (E ++ [⟨key, l, wb.heap.size⟩]) w' → wpList Tryz.prog ops Q rest (a.put o.dst undef) w') :
 wpList Tryz.prog ops Q (o :: rest) a w := by
 obtain ⟨h1, h2, h3, h4⟩ := hE
 subst hw hcs hgq
 have hlt := h1.lt
 refine wpList_plain hg fun K' hK' => ?_
 obtain ⟨w', hrun, r1, r2⟩ := (h1.alloc (.cells (l.map .string).toArray 9)).update (e := 73) key_law Tryz.underlying104 hn (Go.WideMaps.keyOf_string_mk Tryz.underlying9 hk) (val := .slice (some ⟨wb.heap.size, 0, none⟩) l.length l.length) (d := encE ⟨key, l, wb.heap.size⟩) (ps := []) rfl
 unfold Oper.wp
 simp [execOp, hop, hm, hx, hv, hrun, Result.andThen]
 refine hK' _ _ (hK w' ⟨?_, fun e he => ?_, ?_, h4⟩)
 · rw [datE_snoc, List.length_append]; exact r1
 · rcases List.mem_append.1 he with he | he
   · obtain ⟨e1, e2⟩ := h2 e he
     refine ⟨e1, ?_⟩
     have hl := (Array.getElem?_eq_some_iff.1 e2).1
     rw [r2.block e.g (by simp; omega) (by simp; exact e1)]
     rw [((Below.refl wb.heap.size wb).alloc (Nat.le_refl _) _).block e.g hl]
     exact e2
   · rcases List.mem_singleton.1 he with rfl
     refine ⟨by simp; omega, ?_⟩
     rw [r2.block _ (by simp) (by simp; omega)]
     exact heap_alloc_new wb _
 · exact (h3.alloc h3.size _).grown r2 (by simp; have := h3.size; omega) (fun k hk => by simp at hk; omega)
end Go.Proofs.YtplghpamckdklaaGreat

namespace Go.Proofs.YtplghpamckdklaaGreat
open Go.RowKit Go.Maps
set_option maxRecDepth 1000000

def partsOf (l : List ByteArray) : List (Nat × Operand) := l.mapIdx fun i s => (i, Operand.const (.string s))
/-- two operations an entry, then the map is told -/
def tabM : List (ByteArray × List ByteArray) → List Oper → Nat → Prop
 | (k, l) :: t, o1 :: o2 :: r, d => (o1.guard = none ∧ o1.dst = some d ∧ o1.op = .buildSlice 73 l.length (partsOf l).toArray) ∧ (o2.guard = none ∧ o2.dst = none ∧ o2.op = .insert 104 (.tmp 1) (.const (.string k)) (.tmp d)) ∧ tabM t r (d + 1)
 | [], [o1, o2], d => (o1.guard = none ∧ o1.dst = some d ∧ o1.op = .move (.tmp 1)) ∧ (o2.guard = none ∧ o2.dst = some 0 ∧ o2.op = .assign (.tmp d))
 | _, _, _ => False

theorem build_run (a : Act) (w : World) : ∀ l : List ByteArray, l.length = 1 ∨ l.length = 2 ∨ l.length = 3 ∨ l.length = 9 → (Instr.buildSlice 73 l.length ((partsOf l).toArray.map fun x => (x.1, a.eval x.2))).run Tryz.prog w = .ok (.slice (some ⟨w.heap.size, 0, none⟩) l.length l.length) (w.alloc (.cells (l.map .string).toArray 9))
 | [], h => by simp at h
 | [s0], _ => by kernel_rfl
 | [s0, s1], _ => by kernel_rfl
 | [s0, s1, s2], _ => by kernel_rfl
 | [_, _, _, _], h => by simp at h
 | [_, _, _, _, _], h => by simp at h
 | [_, _, _, _, _, _], h => by simp at h
 | [_, _, _, _, _, _, _], h => by simp at h
 | [_, _, _, _, _, _, _, _], h => by simp at h
 | [s0, s1, s2, s3, s4, s5, s6, s7, s8], _ => by kernel_rfl
 | _ :: _ :: _ :: _ :: _ :: _ :: _ :: _ :: _ :: _ :: _, h => by simp at h
theorem wpList_tab_end {Q : Exit → Act → World → Prop} {ops : Array Oper} {a : Act} {w : World} {r : List Oper} {d : Nat} {v : Value} (hM : tabM [] r d) (h1 : a.tmps[1]? = some v) (hd : 2 ≤ d) (hs : d < a.tmps.size)
 (hK : ∀ a', a'.tmps.getD 0 undef = v → a'.defers = a.defers → Q .normal a' w) : wpList Tryz.prog ops Q r a w := by
 rcases r with _ | ⟨o1, _ | ⟨o2, _ | ⟨o3, r⟩⟩⟩
 · exact absurd hM (by simp [tabM])
 · exact absurd hM (by simp [tabM])
 · obtain ⟨⟨g1, d1, p1⟩, g2, d2, p2⟩ := hM
   refine wpList_plain g1 fun K hK1 => ?_
   unfold Oper.wp
   simp only [execOp, p1, Act.eval]
   refine hK1 _ _ (wpList_plain g2 fun K2 hK2 => ?_)
   unfold Oper.wp
   simp only [execOp, p2, Act.eval]
   refine hK2 _ _ (wpList_nil (hK _ ?_ ?_))
   · have h3 : (a.tmps.setIfInBounds d (a.tmps.getD 1 undef)).getD d undef = v := by
      rw [Array.getD_eq_getD_getElem?, Array.getElem?_setIfInBounds_self_of_lt hs, Array.getD_eq_getD_getElem?, h1]; rfl
     simp only [Act.put, d1, d2]
     rw [h3, Array.getD_eq_getD_getElem?, Array.getElem?_setIfInBounds_self_of_lt (by rw [Array.size_setIfInBounds]; omega)]; rfl
   · simp [Act.put, d1, d2]
 · exact absurd hM (by simp [tabM])

theorem wpList_tab (TT : List (ByteArray × List ByteArray)) (hTT : TT.length < maxLen ∧ ∀ p ∈ TT, p.1.size ≤ maxLen ∧ (p.2.length = 1 ∨ p.2.length = 2 ∨ p.2.length = 3 ∨ p.2.length = 9)) {Q : Exit → Act → World → Prop} {ops : Array Oper} {w0 : World} {b : Nat} (t : List (ByteArray × List ByteArray)) : ∀ (r : List Oper) (d : Nat) (E : List Ent) (a : Act) (w : World), tabM t r d → E.map (fun e => (e.k, e.l)) ++ t = TT → TabI w0 b E w →
 a.tmps[1]? = some (.map (some b)) → 2 ≤ d → d + t.length < a.tmps.size →
 (∀ (E' : List Ent) a' w', E'.map (fun e => (e.k, e.l)) = TT → TabI w0 b E' w' → a'.tmps.getD 0 undef = .map (some b) → a'.defers = a.defers → Q .normal a' w') → wpList Tryz.prog ops Q r a w := by
 induction t with
 | nil =>
   intro r d E a w hM hE hT h1 hd hs hK
   exact wpList_tab_end hM h1 hd (by simpa using hs) fun a' h2 h3 => hK E a' w (by simpa using hE) hT h2 h3
 | cons p t ih =>
   obtain ⟨k, l⟩ := p
   intro r d E a w hM hE hT h1 hd hs hK
   rcases r with _ | ⟨o1, _ | ⟨o2, r⟩⟩
   · exact absurd hM (by simp [tabM])
   · exact absurd hM (by simp [tabM])
   · obtain ⟨⟨g1, d1, p1⟩, ⟨g2, d2, p2⟩, hM⟩ := hM
     obtain ⟨hk, hl⟩ := hTT.2 (k, l) (by rw [← hE]; simp)
     have hn : E.length < maxLen := by
      have h5 : TT.length = E.length + (t.length + 1) := by rw [← hE]; simp
      have := hTT.1
      omega
     have h2 : (a.tmps.setIfInBounds d (.slice (some ⟨w.heap.size, 0, none⟩) l.length l.length))[1]? = some (.map (some b)) := by
      rw [Array.getElem?_setIfInBounds_ne (by omega)]; exact h1
     have h3 : (a.tmps.setIfInBounds d (.slice (some ⟨w.heap.size, 0, none⟩) l.length l.length))[d]? = some (.slice (some ⟨w.heap.size, 0, none⟩) l.length l.length) := by
      rw [Array.getElem?_setIfInBounds_self_of_lt (by simp only [List.length_cons] at hs; omega)]
     refine wpList_plain g1 fun K hK1 => ?_
     have hb := build_run a w l hl
     unfold Oper.wp
     simp only [execOp, p1, Sem.run_bind, hb, Result.andThen_ok, Sem.run_pure]
     refine hK1 _ _ ?_
     refine wpList_insert_tab (w0 := w0) g2 (.tmp 1) (.const (.string k)) (.tmp d) p2 b E ?_ w _ rfl hT k l hk hn rfl rfl _ rfl ?_ fun w' hT' => ?_
     · simp only [Act.put, d1, Act.eval, Array.getD_eq_getD_getElem?, h2]; rfl
     · simp only [Act.put, d1, Act.eval, Array.getD_eq_getD_getElem?, h3]; rfl
     · refine ih r (d + 1) (E ++ [⟨k, l, w.heap.size⟩]) _ w' hM ?_ hT' ?_ (by omega) ?_ fun E' a' w2 k1 k2 k3 k4 => hK E' a' w2 k1 k2 k3 ?_
       · rw [List.map_append, List.append_assoc]; exact hE
       · simp only [Act.put, d1, d2]; exact h2
       · simp only [Act.put, d1, d2, Array.size_setIfInBounds]; simp only [List.length_cons] at hs; omega
       · rw [k4]; simp only [Act.put, d1, d2]

theorem tabL_ok : tabL.length < maxLen ∧ ∀ p ∈ tabL, p.1.size ≤ maxLen ∧ (p.2.length = 1 ∨ p.2.length = 2 ∨ p.2.length = 3 ∨ p.2.length = 9) := by
 have h27 : tabL.length = 27 := rfl
 have h : ∀ p ∈ tabL, p.1.size ≤ 2 ∧ (p.2.length = 1 ∨ p.2.length = 2 ∨ p.2.length = 3 ∨ p.2.length = 9) := by decide +kernel
 refine ⟨by unfold maxLen; omega, fun p hp => ?_⟩
 obtain ⟨h1, h2⟩ := h p hp
 exact ⟨by unfold maxLen; omega, h2⟩
set_option maxHeartbeats 1000000 in
theorem code_allForms (w : World) : Calls Tryz.prog 84 #[] w fun e w' => ∃ b E, e = .returned (.map (some b)) ∧ E.map (fun e => (e.k, e.l)) = tabL ∧ TabI w b E w' := by
 have hmm := @run_makeMap Tryz.prog
 have HT := Lib.hid (tab_made w)
 go_enter Tryz.func84, Tryz.ntmps84
 go_wp2_with (refine wpList_tab tabL tabL_ok (w0 := w) (b := w.heap.size) tabL _ 2 [] _ _ ?m1 rfl HT.out ?m2 (by omega) ?m3 ?m4)
 case m1 => repeat (first | exact ⟨⟨rfl, rfl, rfl⟩, rfl, rfl, rfl⟩ | refine ⟨⟨rfl, rfl, rfl⟩, ⟨rfl, rfl, rfl⟩, ?_⟩)
 case m3 => decide
 case m4 =>
  intro E a' w' hE hT h0 hd
  obtain ⟨tm, df⟩ := a'
  simp only at hd
  subst hd
  clear HT hmm
  go_wp2
  refine bodyPost_ret (results_tmp rfl _ _ _) rfl ?_
  exact ⟨w.heap.size, congrArg Ending.returned ((Array.getD_eq_getD_getElem? ..).trans h0), E, hE, hT⟩

/-- the forms of a country: nothing of what is no member state -/
def formsOf (c : ByteArray) : List ByteArray := match tabL.find? (fun p => decide (p.1 = c)) with
 | some p => p.2
 | none => []
theorem tabL_nodup : (tabL.map (·.1)).Nodup := by decide +kernel
theorem tabL_small : ∀ p ∈ tabL, ∀ f ∈ p.2, f.size ≤ 1000 := by decide +kernel
theorem formsOf_none {c : ByteArray} (h : ∀ p ∈ tabL, p.1 ≠ c) : formsOf c = [] := by
 unfold formsOf
 rw [List.find?_eq_none.2 (fun p hp => by simpa using h p hp)]
theorem find_key {c : ByteArray} {l : List ByteArray} : ∀ T : List (ByteArray × List ByteArray), (T.map (·.1)).Nodup → (c, l) ∈ T → T.find? (fun p => decide (p.1 = c)) = some (c, l) := by
 intro T
 induction T with
 | nil => intro _ h; simp at h
 | cons p T ih =>
   intro hn hm
   rw [List.map_cons, List.nodup_cons] at hn
   rcases List.mem_cons.1 hm with rfl | hm
   · rw [List.find?_cons_of_pos (by simp)]
   · have : p.1 ≠ c := fun e => hn.1 (by rw [e]; exact List.mem_map_of_mem (f := (·.1)) hm)
     rw [List.find?_cons_of_neg (by simpa using this)]
     exact ih hn.2 hm
theorem formsOf_some {c : ByteArray} {l : List ByteArray} (h : (c, l) ∈ tabL) : formsOf c = l := by
 unfold formsOf
 rw [find_key tabL tabL_nodup h]

theorem tab_look {w0 w : World} {b : Nat} {E : List Ent} (h : TabI w0 b E w) (hE : E.map (fun e => (e.k, e.l)) = tabL) (c : ByteArray) (hc : c.size ≤ maxLen) :
 ∃ A n, (Instr.lookup 104 (.map (some b)) (.string c) false).run Tryz.prog w = .ok (.slice A (formsOf c).length n) w ∧ Strs w A (formsOf c) := by
 obtain ⟨h1, h2, h3, h4⟩ := h
 obtain ⟨v, ps, hr, hv⟩ := h1.lookup (e := 73) key_law Tryz.underlying104 (z := .slice none 0 0) (by kernel_rfl) (zd := .nil) (zp := []) rfl (WideMaps.keyOf_string_mk Tryz.underlying9 hc)
 by_cases hm : ∃ e ∈ E, e.k = c
 · obtain ⟨e, he, rfl⟩ := hm
   have hnd : (E.map (·.k)).Nodup := by
    have := tabL_nodup
    rw [← hE, List.map_map] at this
    exact this
   rw [datE_some e E he hnd] at hv
   have hv2 := rdS_inv hv
   subst hv2
   have hmem : (e.k, e.l) ∈ tabL := by rw [← hE]; exact List.mem_map_of_mem (f := fun e : Ent => (e.k, e.l)) he
   rw [formsOf_some hmem]
   refine ⟨_, _, hr, fun i hi => ?_⟩
   obtain ⟨h5, h6⟩ := h2 e he
   have hg := (Array.getElem?_eq_some_iff.1 h6).1
   refine ⟨_, rfl, hg, ?_, tabL_small _ hmem _ (List.getElem_mem hi)⟩
   have h7 : (⟨e.g, 0, none⟩ : Addr).add i = ⟨e.g, i, none⟩ := by
    unfold Addr.add
    by_cases h0 : i = 0
    · subst h0; simp
    · rw [if_neg h0]; simp
   rw [h7, cell_of_row w e.g i _ _ _ h6]
   simp [hi]
 · have hne : ∀ e ∈ E, e.k ≠ c := fun e he hq => hm ⟨e, he, hq⟩
   rw [datE_none c E hne] at hv
   have hv2 := rdS_nil hv
   subst hv2
   have hf : formsOf c = [] := formsOf_none (fun p hp => by
    rw [← hE] at hp
    obtain ⟨e, he, rfl⟩ := List.mem_map.1 hp
    exact hne e he)
   rw [hf]
   exact ⟨none, 0, hr, fun i hi => by simp at hi⟩

/-- a list of texts told -/
def ToldL (w : World) (L : List ByteArray) (e : Ending) (w' : World) : Prop := ∃ A n, e = .returned (.slice A L.length n) ∧ Strs w' A L ∧ Below w.heap.size w w'
theorem code_forms (c : ByteArray) (w : World) (hc : c.size ≤ maxLen) : Calls Tryz.prog 61 #[.string c] w (ToldL w (formsOf c)) := by
 have HA := Lib.hid (code_allForms w)
 have HL : Hid (∀ b E w', E.map (fun e => (e.k, e.l)) = tabL → TabI w b E w' → ∃ A n, (Instr.lookup 104 (.map (some b)) (.string c) false).run Tryz.prog w' = .ok (.slice A (formsOf c).length n) w' ∧ Strs w' A (formsOf c)) := Lib.hid (fun b E w' h1 h2 => tab_look h2 h1 c hc)
 clear hc
 go_enter Tryz.func61, Tryz.ntmps61
 go_wp2_with (go_at_call 84; refine HA.out.mono ?_; rintro e w1 ⟨b, E, rfl, hE, hT⟩; have HB1 := Lib.hid hT.2.2.1; obtain ⟨A, n, hr, hs⟩ := HL.out b E w1 hE hT; have HS := Lib.hid hs; clear hE hT hs)
 go_ret
 exact ⟨A, n, rfl, HS.out, HB1.out⟩
end Go.Proofs.YtplghpamckdklaaGreat
