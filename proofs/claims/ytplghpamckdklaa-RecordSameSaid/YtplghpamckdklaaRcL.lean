/- The chapter's document as bytes: Encode. -/
import Derived.Test.YtplghpamckdklaaRcK
import Derived.Test.YtplghpamckdklaaRcI
import Derived.WalkMore
namespace Go.Proofs.Ytplghpamckdklaa
open Go.RowKit
set_option maxRecDepth 100000
set_option linter.unusedSimpArgs false
set_option linter.unusedVariables false

set_option maxHeartbeats 2000000 in
theorem write_8 (cs : Array Value) (d : DocV) (B g : Nat) (S S2 : Option Text) (v : Value) (w : World) (hw : Wrt w B g S v) (hB : B ≤ w.heap.size) (hk : cs[0]? = some (.int .i64 8)) (hy : cs[13]? = some (.string d.id) ∧ cs[14]? = some (.bool d.sale) ∧ cs[15]? = some (.bool d.credit) ∧ cs[16]? = some (.string d.refers) ∧ cs[17]? = some (.int .i64 d.day) ∧ cs[18]? = some (.string d.country) ∧ cs[19]? = some (.string d.number) ∧ cs[20]? = some (.string d.currency) ∧ cs[21]? = some (.slice d.linesA d.lines.length d.linesC)) (hS : (S.getD []).length ≤ 140737488000000) (HWd : Hid (∀ (W : World) (v : Value), Below B w W → Wrt W B g (nextS S (docN 8)) v → B ≤ W.heap.size → Calls Try.prog 52 #[.pointer (some ⟨g, 0, none⟩), .agg #[.string d.id, .bool d.sale, .bool d.credit, .string d.refers, .int .i64 d.day, .string d.country, .string d.number, .string d.currency, .slice d.linesA d.lines.length d.linesC]] W (Wrote W B g S2))) : Calls Try.prog 35 #[.pointer (some ⟨g, 0, none⟩), .agg cs] w fun e w1 => Wrote w B g S2 e w1 := by
  have HS := Lib.hid (WB.start hw hB (.cells cs 28 (0, 0)))
  have HB0 := Lib.hid (show Below B w (w.alloc (.cells cs 28 (0, 0))) from (Below.refl _ _).alloc hB _)
  have HKs := Lib.hid (And.intro hk hy)
  have HL := Lib.hid hS
  clear hw hS
  have k0 := (cell_of_row _ _ 0 _ _ _ HS.out.box).trans hk
  clear hk hy
  go_enter Try.func35, Try.ntmps35
  go_wp2_with (go_at_call 50; refine (HS.out.num 8 (by decide) (by decide) HL.out).mono ?_; rintro e w1 ⟨rfl, hs1, hb⟩; have HS1 := Lib.hid hs1; have HB1 := Lib.hid (HB0.out.trans hb); clear hs1 hb k0; have k0 := (cell_of_row _ _ 0 _ _ _ HS1.out.box).trans HKs.out.1; refine Stop.out ?_)
  unfold Stop
  have k13 := (cell_of_row _ _ 13 _ _ _ HS1.out.box).trans HKs.out.2.1
  have k14 := (cell_of_row _ _ 14 _ _ _ HS1.out.box).trans HKs.out.2.2.1
  have k15 := (cell_of_row _ _ 15 _ _ _ HS1.out.box).trans HKs.out.2.2.2.1
  have k16 := (cell_of_row _ _ 16 _ _ _ HS1.out.box).trans HKs.out.2.2.2.2.1
  have k17 := (cell_of_row _ _ 17 _ _ _ HS1.out.box).trans HKs.out.2.2.2.2.2.1
  have k18 := (cell_of_row _ _ 18 _ _ _ HS1.out.box).trans HKs.out.2.2.2.2.2.2.1
  have k19 := (cell_of_row _ _ 19 _ _ _ HS1.out.box).trans HKs.out.2.2.2.2.2.2.2.1
  have k20 := (cell_of_row _ _ 20 _ _ _ HS1.out.box).trans HKs.out.2.2.2.2.2.2.2.2.1
  have k21 := (cell_of_row _ _ 21 _ _ _ HS1.out.box).trans HKs.out.2.2.2.2.2.2.2.2.2
  obtain ⟨v1, hv1, hv2, _⟩ := HS1.out
  have HV := Lib.hid (And.intro hv1 hv2)
  clear hv1 hv2
  go_wp2_with (go_at_call 52; refine (HWd.out _ _ HB1.out HV.out.1 HV.out.2).mono ?_; rintro e w2 ⟨rfl, hw2, hb⟩; have HW2 := Lib.hid hw2; have HB2 := Lib.hid (HB1.out.trans hb); clear hw2 hb)
  go_end0
  exact ⟨rfl, HW2.out, HB2.out⟩
def simpleT : Text := (linesT (headT (nextS (some []) (docN 8)) (simpleD ⟨0, 0, none⟩ 1)) [simpleL]).getD []
theorem simple_bytes (A : Addr) (c : Nat) : linesT (headT (nextS (some []) (docN 8)) (simpleD A c)) (simpleD A c).lines = some simpleT := by
  have e : linesT (headT (nextS (some []) (docN 8)) (simpleD A c)) (simpleD A c).lines = linesT (headT (nextS (some []) (docN 8)) (simpleD ⟨0, 0, none⟩ 1)) [simpleL] := rfl
  rw [e]
  decide +kernel
theorem simpleT_len : simpleT.length ≤ 140737488000000 := by decide +kernel
theorem simple_row {A : Addr} {W W' : World} {B : Nat} (h : RowLineV W (some A) [simpleL]) (hA : A.block < B) (hb : Below B W W') : RowLineV W' (some A) [simpleL] := fun hn => by
  obtain ⟨b, o, e, hl, hr⟩ := h hn
  have e2 : A = ⟨b, o, none⟩ := Option.some.inj e
  subst e2
  exact ⟨b, o, rfl, Nat.lt_of_lt_of_le hl hb.size, fun j v hv => (hb.cell (p := ⟨b, o + j, none⟩) hA).trans (hr j v hv)⟩
set_option maxHeartbeats 1000000 in
theorem encode_simple (A : Addr) (c : Nat) (w : World) (h : RowLineV w (some A) [simpleL]) (hA : A.block < w.heap.size) (h1 : 1 ≤ c) (h2 : c ≤ maxLen) : Calls Try.prog 21 #[.agg #[.int .i64 8, .string ⟨#[]⟩, .string ⟨#[]⟩, .int .i64 0, .int .i64 0, .int .i64 0, .int .i64 0, .int .i64 0, .int .i64 0, .int .i64 0, .int .i64 0, .int .i64 0, .int .i64 0, .string ⟨#[97]⟩, .bool true, .bool false, .string ⟨#[]⟩, .int .i64 19000, .string ⟨#[68, 69]⟩, .string ⟨#[]⟩, .string ⟨#[]⟩, .slice (some A) 1 c]] w (EncP w simpleT) :=
  encode_ok #[.int .i64 8, .string ⟨#[]⟩, .string ⟨#[]⟩, .int .i64 0, .int .i64 0, .int .i64 0, .int .i64 0, .int .i64 0, .int .i64 0, .int .i64 0, .int .i64 0, .int .i64 0, .int .i64 0, .string ⟨#[97]⟩, .bool true, .bool false, .string ⟨#[]⟩, .int .i64 19000, .string ⟨#[68, 69]⟩, .string ⟨#[]⟩, .string ⟨#[]⟩, .slice (some A) 1 c] simpleT w rfl (Lib.hid (fun W hb => good_simple A c W (h.on hb) h1 h2))
    (Lib.hid (fun W g v hb hw hB => write_8 #[.int .i64 8, .string ⟨#[]⟩, .string ⟨#[]⟩, .int .i64 0, .int .i64 0, .int .i64 0, .int .i64 0, .int .i64 0, .int .i64 0, .int .i64 0, .int .i64 0, .int .i64 0, .int .i64 0, .string ⟨#[97]⟩, .bool true, .bool false, .string ⟨#[]⟩, .int .i64 19000, .string ⟨#[68, 69]⟩, .string ⟨#[]⟩, .string ⟨#[]⟩, .slice (some A) 1 c] (simpleD A c) (w.heap.size + 1) g (some []) (some simpleT) v W hw hB rfl ⟨rfl, rfl, rfl, rfl, rfl, rfl, rfl, rfl, rfl⟩ (by decide)
      (Lib.hid (fun W2 v2 hb2 hw2 hB2 => by
        have hx := write_doc (simpleD A c) (w.heap.size + 1) g 70000 (nextS (some []) (docN 8)) v2 W2 hw2 hB2 (by decide +kernel) (by decide) (show ([simpleL] : List LineV).length ≤ 1000 by decide) h1 (show (⟨#[97]⟩ : ByteArray).size ≤ _ by decide) (show (⟨#[]⟩ : ByteArray).size ≤ _ by decide) ⟨show (-9223372036854775808 : Int) ≤ 19000 by decide, show (19000 : Int) ≤ 9223372036854775807 by decide, show (⟨#[68, 69]⟩ : ByteArray).size ≤ _ by decide, show (⟨#[]⟩ : ByteArray).size ≤ _ by decide, show (⟨#[]⟩ : ByteArray).size ≤ _ by decide⟩
          (Lib.hid (fun W3 hb3 => simple_row ((h.on hb).on ((Below.refl _ _))) (Nat.lt_succ_of_lt hA) (hb2.trans hb3)))
          (Lib.hid (fun l hl => by
            have : l = simpleL := by simpa [simpleD] using hl
            subst this
            unfold lineR simpleL
            decide))
        rw [simple_bytes] at hx
        exact hx)))) simpleT_len
end Go.Proofs.Ytplghpamckdklaa
