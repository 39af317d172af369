/- The document's Append, whatever is appended; what it keeps. -/
import Derived.Test.YtbbgmjfmpcbpbaaJ46
import Derived.Test.YtbbgmjfmpcbpbaaJ45
namespace Go.Proofs.Ytbbgmjfmpcbpbaa
open Go.RowKit
set_option maxRecDepth 100000
set_option linter.unusedSimpArgs false
set_option linter.unusedVariables false

/-- the document's journal, its number and its error behind an append -/
def AppRR (w : World) (x : DiskV × JnV × Int × Int) (e : Ending) (w' : World) : Prop := ∃ g2 c2 tr2, e = .returned (.tuple #[.agg (jQ g2 c2 x.1.many (aftR x.1) tr2 x.1.dead x.1.writes x.2.1.many x.2.1.tail x.2.1.cut).toArray, .int .i64 x.2.2.1, .int .i64 x.2.2.2]) ∧ RefIs w' g2 c2 tr2 x.1 ∧ Below w.heap.size w w'
theorem ref_japp (w : World) (g c : Nat) (tr : Int) (d : DiskV) (j : JnV) (b : Text) (A : Option Addr) (cp : Nat) (h : RefIs w g c tr d) (hok : OkD d) (hm : d.many ≤ 1000) (hm1 : 1 ≤ d.many) (hwr : d.writes ≤ 1000000) (h64 : ∀ k, k < d.many → (d.S k).length = 64)
    (hn : j.many ≤ 100000) (ht : j.tail ≤ d.many) (hb : b.length ≤ 1000) (hcc : b.length ≤ cp) (hT : Txt w A b) :
    Calls Try.prog 37 #[.agg (jQ g c d.many (aftR d) tr d.dead d.writes j.many j.tail j.cut).toArray, .slice A b.length cp] w (AppRR w (AppX d j b)) := by
  unfold AppX
  by_cases hc0 : j.cut = true
  · rw [if_pos hc0, hc0]
    refine (ref_japp_dead w g c d.many (aftR d) tr d.dead d.writes j.many j.tail A b.length cp).mono ?_
    rintro e w' ⟨rfl, hb2⟩
    exact ⟨g, c, tr, by rw [hc0], h.below hb2, hb2⟩
  · rw [if_neg hc0]
    have hc : j.cut = false := by simpa using hc0
    rw [hc]
    cases hh : headOk (j.many + 1 : Nat) b.length with
    | false =>
      rw [if_pos rfl]
      refine (ref_japp_arg w g c d.many (aftR d) tr d.dead d.writes j.many j.tail b A cp hn hb hT hh).mono ?_
      rintro e w' ⟨rfl, hb2⟩
      exact ⟨g, c, tr, by rw [hc], h.below hb2, hb2⟩
    | true =>
      rw [if_neg (by decide)]
      have h1 : 1 ≤ b.length := by have := headOk_len hh; omega
      by_cases hf : d.many - j.tail < manyC b + 2
      · rw [if_pos hf]
        refine (ref_japp_full w g c d.many (aftR d) tr d.dead d.writes j.many j.tail b A cp hn (by omega) ht h1 hb hcc hT (by rw [pagesT_len]; exact hf)).mono ?_
        rintro e w' ⟨rfl, hb2⟩
        exact ⟨g, c, tr, by rw [hc], h.below hb2, hb2⟩
      · rw [if_neg hf]
        refine (ref_japp_put w g c tr d j.many j.tail b A cp h hok hm hm1 hwr h64 hn ht h1 hb hcc hT hh (by omega)).mono ?_
        rintro e w' ⟨g2, c2, tr2, hr2, hb2, hx⟩
        unfold AppY
        rcases hx with ⟨h0, rfl⟩ | ⟨h0, rfl⟩
        · rw [if_pos h0]
          exact ⟨g2, c2, tr2, by rw [hc], hr2, hb2⟩
        · rw [if_neg h0]
          exact ⟨g2, c2, tr2, rfl, hr2, hb2⟩
/-- what is put keeps a disk in its bounds -/
theorem putF_keeps : ∀ (L : List Text) (d : DiskV) (t : Nat), OkD d → (∀ k, k < d.many → (d.S k).length = 64) →
    (putF d t L).1.many = d.many ∧ OkD (putF d t L).1 ∧ (putF d t L).1.writes ≤ d.writes + L.length ∧ (∀ k, k < (putF d t L).1.many → ((putF d t L).1.S k).length = 64)
  | [], d, t, h, h64 => ⟨rfl, h, by show d.writes ≤ d.writes + ((0 : Nat) : Int); omega, h64⟩
  | T :: L, d, t, h, h64 => by
    have hw := writeD_writes d (t : Nat) T
    by_cases he : writeE d (t : Nat) T = 0
    · have e : putF d t (T :: L) = putF (writeD d (t : Nat) T) (t + 1) L := if_pos he
      rw [e]
      obtain ⟨q1, q2, q3, q4⟩ := putF_keeps L (writeD d (t : Nat) T) (t + 1) (writeD_ok _ _ _ h) (writeD_64 h64)
      refine ⟨by rw [q1, writeD_many], q2, ?_, q4⟩
      rw [List.length_cons]
      omega
    · have e : putF d t (T :: L) = (writeD d (t : Nat) T, writeE d (t : Nat) T) := if_neg he
      rw [e]
      refine ⟨writeD_many _ _ _, writeD_ok _ _ _ h, ?_, writeD_64 h64⟩
      rw [List.length_cons]
      show (writeD d (t : Nat) T).writes ≤ _
      omega
theorem AppX_keeps (d : DiskV) (j : JnV) (b : Text) (hok : OkD d) (h64 : ∀ k, k < d.many → (d.S k).length = 64) (ht : j.tail ≤ d.many) (hb : b.length ≤ 1000) :
    (AppX d j b).1.many = d.many ∧ OkD (AppX d j b).1 ∧ (AppX d j b).1.writes ≤ d.writes + 1000 ∧ (∀ k, k < (AppX d j b).1.many → ((AppX d j b).1.S k).length = 64) ∧
    (AppX d j b).2.1.tail ≤ d.many ∧ (AppX d j b).2.1.many ≤ j.many + 1 ∧ (AppX d j b).2.1.B = j.B := by
  unfold AppX
  by_cases hc : j.cut = true
  · rw [if_pos hc]; exact ⟨rfl, hok, by show d.writes ≤ _; omega, h64, ht, Nat.le_succ _, rfl⟩
  · rw [if_neg hc]
    by_cases hh : headOk (j.many + 1 : Nat) b.length = false
    · rw [if_pos hh]; exact ⟨rfl, hok, by show d.writes ≤ _; omega, h64, ht, Nat.le_succ _, rfl⟩
    · rw [if_neg hh]
      by_cases hf : d.many - j.tail < manyC b + 2
      · rw [if_pos hf]; exact ⟨rfl, hok, by show d.writes ≤ _; omega, h64, ht, Nat.le_succ _, rfl⟩
      · rw [if_neg hf]
        obtain ⟨q1, q2, q3, q4⟩ := putF_keeps (pagesT (j.many + 1) b) d j.tail hok h64
        have hl : ((pagesT (j.many + 1) b).length : Int) ≤ 1000 := by rw [pagesT_len]; unfold manyC; omega
        unfold AppY
        by_cases h0 : (putF d j.tail (pagesT (j.many + 1) b)).2 = 0
        · rw [if_pos h0]
          exact ⟨q1, q2, Int.le_trans q3 (by omega), q4, by show j.tail + _ ≤ d.many; omega, Nat.le_refl _, rfl⟩
        · rw [if_neg h0]
          exact ⟨q1, q2, Int.le_trans q3 (by omega), q4, ht, Nat.le_succ _, rfl⟩
end Go.Proofs.Ytbbgmjfmpcbpbaa
