/- Documents that are there: the chapter's example. -/
import Derived.Test.YtjanhgekocpobaaIdJ
namespace Go.Proofs.Ytjanhgekocpobaa
open Go.RowKit
set_option maxRecDepth 100000
set_option linter.unusedSimpArgs false
set_option linter.unusedVariables false

def exA (A : Addr) : DocV := ⟨⟨#[97]⟩, true, false, ⟨#[]⟩, 19000, ⟨#[68, 69]⟩, ⟨#[]⟩, ⟨#[]⟩, some A, [simpleL], 1⟩
def exB (A : Addr) : DocV := ⟨⟨#[98]⟩, true, true, ⟨#[97]⟩, 19000, ⟨#[68, 69]⟩, ⟨#[]⟩, ⟨#[]⟩, some A, [simpleL], 1⟩
def exC (A : Addr) : DocV := ⟨⟨#[99]⟩, true, true, ⟨#[120]⟩, 19000, ⟨#[68, 69]⟩, ⟨#[]⟩, ⟨#[]⟩, some A, [simpleL], 1⟩
theorem goodA (A : Addr) : goodB (exA A) = true := by kernel_rfl
theorem goodBb (A : Addr) : goodB (exB A) = true := by kernel_rfl
theorem goodC (A : Addr) : goodB (exC A) = true := by kernel_rfl
theorem forAB (A A1 : Addr) (A2 : Option Addr) (c : Nat) : forB (reL (exA A) A2 c) (exB A1) = true := by kernel_rfl
theorem ex_ok {W : World} {A : Addr} (h : RowLineV W (some A) [simpleL]) : DocVOk W (exA A) ∧ DocVOk W (exB A) ∧ DocVOk W (exC A) := by
  have hr : ∀ r ∈ [simpleL], r.2.2.1.size ≤ 140737488351232 ∧ r.2.2.2.1.size ≤ 140737488351232 ∧ r.2.2.2.2.1.size ≤ 140737488351232 := fun r hr => by
    have : r = simpleL := by simpa using hr
    subst this
    decide
  exact ⟨⟨Nat.le_of_ble_eq_true rfl, Nat.le_of_ble_eq_true rfl, Nat.le_of_ble_eq_true rfl, Nat.le_of_ble_eq_true rfl, Nat.le_of_ble_eq_true rfl, h, (fun e => by cases e), Nat.le_of_ble_eq_true rfl, Nat.le_of_ble_eq_true rfl, hr⟩, ⟨Nat.le_of_ble_eq_true rfl, Nat.le_of_ble_eq_true rfl, Nat.le_of_ble_eq_true rfl, Nat.le_of_ble_eq_true rfl, Nat.le_of_ble_eq_true rfl, h, (fun e => by cases e), Nat.le_of_ble_eq_true rfl, Nat.le_of_ble_eq_true rfl, hr⟩, ⟨Nat.le_of_ble_eq_true rfl, Nat.le_of_ble_eq_true rfl, Nat.le_of_ble_eq_true rfl, Nat.le_of_ble_eq_true rfl, Nat.le_of_ble_eq_true rfl, h, (fun e => by cases e), Nat.le_of_ble_eq_true rfl, Nat.le_of_ble_eq_true rfl, hr⟩⟩
theorem k_ab : ¬ ((⟨#[98]⟩ : ByteArray) = ⟨#[97]⟩) := by decide
theorem k_ca : ¬ ((⟨#[99]⟩ : ByteArray) = ⟨#[97]⟩) := by decide
theorem k_cb : ¬ ((⟨#[99]⟩ : ByteArray) = ⟨#[98]⟩) := by decide
theorem k_xa : ¬ ((⟨#[120]⟩ : ByteArray) = ⟨#[97]⟩) := by decide
theorem k_xb : ¬ ((⟨#[120]⟩ : ByteArray) = ⟨#[98]⟩) := by decide
theorem checkV_is {F : Docs} {d : DocV} (hg : goodB d = true) (hn : (F d.id).isSome = false) (hb : d.credit = true → backB F d = true) : checkV F d = 0 := by
  unfold checkV
  rw [if_neg (by rw [hg]; decide), if_neg (by rw [hn]; decide), if_neg]
  rintro ⟨h1, h2⟩
  rw [hb h1] at h2
  cases h2
theorem checkV_ref {F : Docs} {d : DocV} (hg : goodB d = true) (hn : (F d.id).isSome = false) (hc : d.credit = true) (hb : backB F d = false) : checkV F d = 72 := by
  unfold checkV
  rw [if_neg (by rw [hg]; decide), if_neg (by rw [hn]; decide), if_pos ⟨hc, hb⟩]
theorem checkV_twice {F : Docs} {d : DocV} (hg : goodB d = true) (hn : (F d.id).isSome = true) : checkV F d = 51 := by
  unfold checkV
  rw [if_neg (by rw [hg]; decide), if_pos hn]
theorem ex_c1 (A : Addr) : checkV noF (exA A) = 0 := checkV_is (goodA A) rfl (fun h => by cases h)
theorem ex_c2 (A A1 : Addr) (A2 : Option Addr) (c : Nat) : checkV (upd noF ⟨#[97]⟩ (some (reL (exA A) A2 c))) (exB A1) = 0 := by
  refine checkV_is (goodBb A1) ?_ (fun _ => ?_)
  · rw [show upd noF ⟨#[97]⟩ (some (reL (exA A) A2 c)) (exB A1).id = none from upd_other k_ab]
    rfl
  · unfold backB
    rw [show upd noF ⟨#[97]⟩ (some (reL (exA A) A2 c)) (exB A1).refers = some (reL (exA A) A2 c) from upd_same]
    exact forAB A A1 A2 c
theorem ex_c3 (A : Addr) (x y : DocV) : checkV (upd (upd noF ⟨#[97]⟩ (some x)) ⟨#[98]⟩ (some y)) (exC A) = 72 := by
  refine checkV_ref (goodC A) ?_ rfl ?_
  · rw [show upd (upd noF ⟨#[97]⟩ (some x)) ⟨#[98]⟩ (some y) (exC A).id = none from (upd_other k_cb).trans (upd_other k_ca)]
    rfl
  · unfold backB
    rw [show upd (upd noF ⟨#[97]⟩ (some x)) ⟨#[98]⟩ (some y) (exC A).refers = none from (upd_other k_xb).trans (upd_other k_xa)]
theorem ex_c4 (A : Addr) (x y : DocV) : checkV (upd (upd noF ⟨#[97]⟩ (some x)) ⟨#[98]⟩ (some y)) (exA A) = 51 := by
  refine checkV_twice (goodA A) ?_
  rw [show upd (upd noF ⟨#[97]⟩ (some x)) ⟨#[98]⟩ (some y) (exA A).id = some x from (upd_other (fun e => k_ab e.symm)).trans upd_same]
  rfl
/-- the four puts of the example -/
theorem ex_puts {w : World} {base P bm cm : Nat} (H : SetAt w base P bm cm 0 0 noV noF noC) (A : Addr) (hr : RowLineV w (some A) [simpleL]) (hM : MaxL w) {cs : Array Value} (hA : w.heap[A.block]? = some (Obj.cells cs 60 (0, 0))) (hG : 0 < base) :
    Calls Try.prog 11 #[.pointer (some ⟨P, 0, none⟩), docVal (exA A)] w fun e w1 => e = .returned (.int .i64 0) ∧ Below base w w1 ∧ Still w w1 ∧
      Calls Try.prog 11 #[.pointer (some ⟨P, 0, none⟩), docVal (exB A)] w1 fun e w2 => e = .returned (.int .i64 0) ∧ Below base w1 w2 ∧ Still w1 w2 ∧
        Calls Try.prog 11 #[.pointer (some ⟨P, 0, none⟩), docVal (exC A)] w2 fun e w3 => e = .returned (.int .i64 72) ∧ Below base w2 w3 ∧ Still w2 w3 ∧
          Calls Try.prog 11 #[.pointer (some ⟨P, 0, none⟩), docVal (exA A)] w3 fun e w4 => e = .returned (.int .i64 51) ∧ Below base w3 w4 ∧ Still w3 w4 ∧
            Calls Try.prog 18 #[.pointer (some ⟨P, 0, none⟩)] w4 fun e w5 => e = .returned (.int .i64 2) ∧ w4 = w5 := by
  have hrB : ∀ {W W' : World}, (RowLineV W (some A) [simpleL] ∧ W.heap[A.block]? = some (Obj.cells cs 60 (0, 0))) → Still W W' → (RowLineV W' (some A) [simpleL] ∧ W'.heap[A.block]? = some (Obj.cells cs 60 (0, 0))) := fun {W W'} h hb => by
    have h2 := hb _ _ _ h.2 (by decide)
    refine ⟨fun hn => ?_, h2⟩
    obtain ⟨b, o, e, hl, hra⟩ := h.1 hn
    injection e with e
    subst e
    have hk : W'.heap[b]? = W.heap[b]? := h2.trans h.2.symm
    exact ⟨b, o, rfl, heapLt h2, fun j v hv => (World.cell?_of_block hk).trans (hra j v hv)⟩
  have hMB : ∀ {W W' : World}, MaxL W → Below base W W' → MaxL W' := fun {W W'} h hb => by
    obtain ⟨h1, m, h2⟩ := h
    exact ⟨Nat.lt_of_lt_of_le h1 hb.size, m, (World.cell?_of_block (hb.block _ hG)).trans h2⟩
  refine (put_plain H (exA A) (ex_ok hr).1 hM (ex_c1 A) (by decide) (by decide) rfl).mono ?_
  rintro e w1 ⟨he, hb1, hs1, A1, c1, m1, V1, H1, hm1⟩
  refine ⟨he, hb1, hs1, ?_⟩
  have hr1 := hrB ⟨hr, hA⟩ hs1
  have hM1 := hMB hM hb1
  refine (put_credit H1 (exB A) (ex_ok hr1.1).2.1 hM1 (ex_c2 A A A1 c1) (by decide) (by omega) rfl (Nat.zero_le _)).mono ?_
  rintro e w2 ⟨he, hb2, hs2, A2, c2, m2, V2, H2, hm2⟩
  refine ⟨he, hb2, hs2, ?_⟩
  have hr2 := hrB hr1 hs2
  have hM2 := hMB hM1 hb2
  have q3 := put_no H2 (exC A) (ex_ok hr2.1).2.2 (Nat.le_of_ble_eq_true rfl) hM2 (by rw [show (exB A).id = ⟨#[98]⟩ from rfl, show (exA A).id = ⟨#[97]⟩ from rfl, ex_c3]; decide)
  rw [show checkV (upd (upd noF (exA A).id (some (reL (exA A) A1 c1))) (exB A).id (some (reL (exB A) A2 c2))) (exC A) = 72 from ex_c3 A _ _] at q3
  refine q3.mono ?_
  rintro e w3 ⟨he, hb3⟩
  have hb3' : Below base w2 w3 := hb3.mono H2.docs.2.2.2
  refine ⟨he, hb3', .of_below hb3, ?_⟩
  have H3 := H2.on hb3
  have hr3 := hrB hr2 (.of_below hb3)
  have hM3 := hMB hM2 hb3'
  have q4 := put_no H3 (exA A) (ex_ok hr3.1).1 (Nat.le_of_ble_eq_true rfl) hM3 (by rw [show (exB A).id = ⟨#[98]⟩ from rfl, show (exA A).id = ⟨#[97]⟩ from rfl, ex_c4]; decide)
  rw [show checkV (upd (upd noF (exA A).id (some (reL (exA A) A1 c1))) (exB A).id (some (reL (exB A) A2 c2))) (exA A) = 51 from ex_c4 A _ _] at q4
  refine q4.mono ?_
  rintro e w4 ⟨he, hb4⟩
  exact ⟨he, hb4.mono H3.docs.2.2.2, .of_below hb4, code_slen (H3.on hb4)⟩
end Go.Proofs.Ytjanhgekocpobaa
