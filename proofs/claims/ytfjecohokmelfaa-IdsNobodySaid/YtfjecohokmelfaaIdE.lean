/- Documents that are there: whether one is there that is what is asked for. -/
import Derived.Test.YtfjecohokmelfaaIdD
namespace Go.Proofs.Ytfjecohokmelfaa
open Go.RowKit
set_option maxRecDepth 100000
set_option linter.unusedSimpArgs false
set_option linter.unusedVariables false
attribute [local go_sem] Oper.semAt_some

set_option maxHeartbeats 1000000 in
theorem has_no {w : World} {base P bm n : Nat} {F : Docs} {s : ByteArray} (c0 : w.cell? ⟨P, 0, none⟩ = some (.map (some bm))) (H : DmAt w base bm n F) (hk : okKey s) (hF : F s = none) (fv : Value) : Calls Try.prog 24 #[.pointer (some ⟨P, 0, none⟩), .string s, fv] w fun e w' => e = .returned (.bool false) ∧ Below w.heap.size w w' := by
  have hLk : (Instr.lookup 45 (.map (some bm)) (.string s) true).run Try.prog w = .ok (.tuple #[.agg #[.string ⟨#[]⟩, .bool false, .bool false, .string ⟨#[]⟩, .int .i64 0, .string ⟨#[]⟩, .string ⟨#[]⟩, .string ⟨#[]⟩, .slice none 0 0], .bool false]) w := by
    have := H.look hk true
    rw [hF] at this
    exact this
  have H0 := Lib.hid (heap_alloc_new w (.cells #[.string ⟨#[]⟩, .bool false, .bool false, .string ⟨#[]⟩, .int .i64 0, .string ⟨#[]⟩, .string ⟨#[]⟩, .string ⟨#[]⟩, .slice none 0 0] 29))
  have HB0 := Lib.hid (below_alloc w (.cells #[.string ⟨#[]⟩, .bool false, .bool false, .string ⟨#[]⟩, .int .i64 0, .string ⟨#[]⟩, .string ⟨#[]⟩, .string ⟨#[]⟩, .slice none 0 0] 29))
  have HR := Lib.hid (setRow_heap (w.alloc (.cells #[.string ⟨#[]⟩, .bool false, .bool false, .string ⟨#[]⟩, .int .i64 0, .string ⟨#[]⟩, .string ⟨#[]⟩, .string ⟨#[]⟩, .slice none 0 0] 29)) w.heap.size _ #[.string ⟨#[]⟩, .bool false, .bool false, .string ⟨#[]⟩, .int .i64 0, .string ⟨#[]⟩, .string ⟨#[]⟩, .string ⟨#[]⟩, .slice none 0 0] _ _ H0.out)
  have HB2 := Lib.hid (below_setRow (g := w.heap.size) HB0.out (Nat.le_refl _) #[.string ⟨#[]⟩, .bool false, .bool false, .string ⟨#[]⟩, .int .i64 0, .string ⟨#[]⟩, .string ⟨#[]⟩, .string ⟨#[]⟩, .slice none 0 0])
  clear H hF
  go_enter Try.func24, Try.ntmps24
  go_wp2_with ((with_reducible refine wpList_store_row (o := ⟨none, _, _, _, _, _⟩) ?b1 29 (.tmp 7) (.tmp 16) ?b2 w.heap.size #[.string ⟨#[]⟩, .bool false, .bool false, .string ⟨#[]⟩, .int .i64 0, .string ⟨#[]⟩, .string ⟨#[]⟩, .string ⟨#[]⟩, .slice none 0 0] ?b3 ?b4 29 #[.string ⟨#[]⟩, .bool false, .bool false, .string ⟨#[]⟩, .int .i64 0, .string ⟨#[]⟩, .string ⟨#[]⟩, .string ⟨#[]⟩, .slice none 0 0] ?b7 ?b6 ?b5 ?b8 ?_); (case b1 => rfl); (case b2 => rfl); (case b3 => rfl); (case b4 => rfl); (case b7 => exact H0.out); (case b6 => exact doc_info); (case b5 => rfl); (case b8 => simp [Value.oneCell']); (try simp only [Act.put]); refine Stop.out ?_)
  unfold Stop
  clear hLk c0 H0 HB0
  generalize World.setRow _ _ _ = w9 at HR HB2 ⊢
  obtain ⟨g, hg⟩ : ∃ g, g = w.heap.size := ⟨_, rfl⟩
  rw [← hg] at HR ⊢
  clear hg
  go_wp2
  go_ret
  exact ⟨rfl, HB2.out⟩
set_option maxHeartbeats 1000000 in
theorem has_any {w : World} {base P bm n : Nat} {F : Docs} {s : ByteArray} (c0 : w.cell? ⟨P, 0, none⟩ = some (.map (some bm))) (H : DmAt w base bm n F) (hk : okKey s) {x : DocV} (hF : F s = some x) : Calls Try.prog 24 #[.pointer (some ⟨P, 0, none⟩), .string s, .func (Fn.func 25) #[] #[]] w fun e w' => e = .returned (.bool true) ∧ Below w.heap.size w w' := by
  have hLk : (Instr.lookup 45 (.map (some bm)) (.string s) true).run Try.prog w = .ok (.tuple #[.agg #[.string x.id, .bool x.sale, .bool x.credit, .string x.refers, .int .i64 x.day, .string x.country, .string x.number, .string x.currency, .slice x.linesA x.lines.length x.linesC], .bool true]) w := by
    have := H.look hk true
    rw [hF] at this
    exact this
  have H0 := Lib.hid (heap_alloc_new w (.cells #[.string ⟨#[]⟩, .bool false, .bool false, .string ⟨#[]⟩, .int .i64 0, .string ⟨#[]⟩, .string ⟨#[]⟩, .string ⟨#[]⟩, .slice none 0 0] 29))
  have HB0 := Lib.hid (below_alloc w (.cells #[.string ⟨#[]⟩, .bool false, .bool false, .string ⟨#[]⟩, .int .i64 0, .string ⟨#[]⟩, .string ⟨#[]⟩, .string ⟨#[]⟩, .slice none 0 0] 29))
  have HR := Lib.hid (setRow_heap (w.alloc (.cells #[.string ⟨#[]⟩, .bool false, .bool false, .string ⟨#[]⟩, .int .i64 0, .string ⟨#[]⟩, .string ⟨#[]⟩, .string ⟨#[]⟩, .slice none 0 0] 29)) w.heap.size _ #[.string x.id, .bool x.sale, .bool x.credit, .string x.refers, .int .i64 x.day, .string x.country, .string x.number, .string x.currency, .slice x.linesA x.lines.length x.linesC] _ _ H0.out)
  have HB2 := Lib.hid (below_setRow (g := w.heap.size) HB0.out (Nat.le_refl _) #[.string x.id, .bool x.sale, .bool x.credit, .string x.refers, .int .i64 x.day, .string x.country, .string x.number, .string x.currency, .slice x.linesA x.lines.length x.linesC])
  have HC : Hid (∀ W, Calls Try.prog 25 #[.agg #[.string x.id, .bool x.sale, .bool x.credit, .string x.refers, .int .i64 x.day, .string x.country, .string x.number, .string x.currency, .slice x.linesA x.lines.length x.linesC]] W fun e w' => e = .returned (.bool true) ∧ Below W.heap.size W w') := Lib.hid (fun W => code_isAny x W)
  clear H hF
  go_enter Try.func24, Try.ntmps24
  go_wp2_with ((with_reducible refine wpList_store_row (o := ⟨none, _, _, _, _, _⟩) ?b1 29 (.tmp 7) (.tmp 16) ?b2 w.heap.size #[.string x.id, .bool x.sale, .bool x.credit, .string x.refers, .int .i64 x.day, .string x.country, .string x.number, .string x.currency, .slice x.linesA x.lines.length x.linesC] ?b3 ?b4 29 #[.string ⟨#[]⟩, .bool false, .bool false, .string ⟨#[]⟩, .int .i64 0, .string ⟨#[]⟩, .string ⟨#[]⟩, .string ⟨#[]⟩, .slice none 0 0] ?b7 ?b6 ?b5 ?b8 ?_); (case b1 => rfl); (case b2 => rfl); (case b3 => rfl); (case b4 => rfl); (case b7 => exact H0.out); (case b6 => exact doc_info); (case b5 => rfl); (case b8 => simp [Value.oneCell']); (try simp only [Act.put]); refine Stop.out ?_)
  unfold Stop
  clear hLk c0 H0 HB0
  generalize World.setRow _ _ _ = w9 at HR HB2 ⊢
  obtain ⟨g, hg⟩ : ∃ g, g = w.heap.size := ⟨_, rfl⟩
  rw [← hg] at HR ⊢
  clear hg
  obtain ⟨u0, u1, u2, u3, u4, u5, u6, u7, u8⟩ := cellsLineV HR.out
  go_wp2_with (go_at_call 25; refine (HC.out _).mono ?_; rintro e w3 ⟨rfl, hb⟩; have HB3 := Lib.hid (below_then HB2.out hb); clear hb)
  go_ret
  exact ⟨rfl, HB3.out⟩
set_option maxHeartbeats 1000000 in
theorem has_for {w : World} {base P bm n : Nat} {F : Docs} {s : ByteArray} (c0 : w.cell? ⟨P, 0, none⟩ = some (.map (some bm))) (H : DmAt w base bm n F) (hk : okKey s) {x : DocV} (hF : F s = some x) (d : DocV) (b : Nat) (hb : w.heap[b]? = some (.cells #[.string d.id, .bool d.sale, .bool d.credit, .string d.refers, .int .i64 d.day, .string d.country, .string d.number, .string d.currency, .slice d.linesA d.lines.length d.linesC] 29 (0, 0))) : Calls Try.prog 24 #[.pointer (some ⟨P, 0, none⟩), .string s, .func (Fn.func 42) #[] #[.pointer (some ⟨b, 0, none⟩)]] w fun e w' => e = .returned (.bool (forB x d)) ∧ Below w.heap.size w w' := by
  have hLk : (Instr.lookup 45 (.map (some bm)) (.string s) true).run Try.prog w = .ok (.tuple #[.agg #[.string x.id, .bool x.sale, .bool x.credit, .string x.refers, .int .i64 x.day, .string x.country, .string x.number, .string x.currency, .slice x.linesA x.lines.length x.linesC], .bool true]) w := by
    have := H.look hk true
    rw [hF] at this
    exact this
  have H0 := Lib.hid (heap_alloc_new w (.cells #[.string ⟨#[]⟩, .bool false, .bool false, .string ⟨#[]⟩, .int .i64 0, .string ⟨#[]⟩, .string ⟨#[]⟩, .string ⟨#[]⟩, .slice none 0 0] 29))
  have HB0 := Lib.hid (below_alloc w (.cells #[.string ⟨#[]⟩, .bool false, .bool false, .string ⟨#[]⟩, .int .i64 0, .string ⟨#[]⟩, .string ⟨#[]⟩, .string ⟨#[]⟩, .slice none 0 0] 29))
  have HR := Lib.hid (setRow_heap (w.alloc (.cells #[.string ⟨#[]⟩, .bool false, .bool false, .string ⟨#[]⟩, .int .i64 0, .string ⟨#[]⟩, .string ⟨#[]⟩, .string ⟨#[]⟩, .slice none 0 0] 29)) w.heap.size _ #[.string x.id, .bool x.sale, .bool x.credit, .string x.refers, .int .i64 x.day, .string x.country, .string x.number, .string x.currency, .slice x.linesA x.lines.length x.linesC] _ _ H0.out)
  have HB2 := Lib.hid (below_setRow (g := w.heap.size) HB0.out (Nat.le_refl _) #[.string x.id, .bool x.sale, .bool x.credit, .string x.refers, .int .i64 x.day, .string x.country, .string x.number, .string x.currency, .slice x.linesA x.lines.length x.linesC])
  have HC : Hid (∀ W, Below w.heap.size w W → Calls Try.prog 42 #[.agg #[.string x.id, .bool x.sale, .bool x.credit, .string x.refers, .int .i64 x.day, .string x.country, .string x.number, .string x.currency, .slice x.linesA x.lines.length x.linesC], .pointer (some ⟨b, 0, none⟩)] W fun e w' => e = .returned (.bool (forB x d)) ∧ Below W.heap.size W w') := Lib.hid (fun W hW => code_isFor1 x d b W (heap_on hW hb))
  clear hb
  clear H hF
  go_enter Try.func24, Try.ntmps24
  go_wp2_with ((with_reducible refine wpList_store_row (o := ⟨none, _, _, _, _, _⟩) ?b1 29 (.tmp 7) (.tmp 16) ?b2 w.heap.size #[.string x.id, .bool x.sale, .bool x.credit, .string x.refers, .int .i64 x.day, .string x.country, .string x.number, .string x.currency, .slice x.linesA x.lines.length x.linesC] ?b3 ?b4 29 #[.string ⟨#[]⟩, .bool false, .bool false, .string ⟨#[]⟩, .int .i64 0, .string ⟨#[]⟩, .string ⟨#[]⟩, .string ⟨#[]⟩, .slice none 0 0] ?b7 ?b6 ?b5 ?b8 ?_); (case b1 => rfl); (case b2 => rfl); (case b3 => rfl); (case b4 => rfl); (case b7 => exact H0.out); (case b6 => exact doc_info); (case b5 => rfl); (case b8 => simp [Value.oneCell']); (try simp only [Act.put]); refine Stop.out ?_)
  unfold Stop
  clear hLk c0 H0 HB0
  generalize World.setRow _ _ _ = w9 at HR HB2 ⊢
  obtain ⟨g, hg⟩ : ∃ g, g = w.heap.size := ⟨_, rfl⟩
  rw [← hg] at HR ⊢
  clear hg
  obtain ⟨u0, u1, u2, u3, u4, u5, u6, u7, u8⟩ := cellsLineV HR.out
  go_wp2_with (go_at_call 42; refine (HC.out _ HB2.out).mono ?_; rintro e w3 ⟨rfl, hb⟩; have HB3 := Lib.hid (below_then HB2.out hb); clear hb)
  go_ret
  exact ⟨rfl, HB3.out⟩
end Go.Proofs.Ytfjecohokmelfaa
