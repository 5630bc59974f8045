/- The law PagePlays: its acts as words of memory; whether they are too long. -/
import Derived.Test.YtekjahofghmdgaaPgLive
open Go Go.RowKit
namespace Go.Proofs.Ytekjahofghmdgaa
/-- an act of the law's -/
structure ActS where
  kind : Int
  i : Int
  A : Option Addr
  c : Nat
  b : List UInt8
  n : Int
  tear : Int
def ActS.cells (a : ActS) : List Value := [.int .i64 a.kind, .int .i64 a.i, .slice a.A a.b.length a.c, .int .i64 a.n, .int .i64 a.tear]
def actsV (l : List ActS) : List Value := l.flatMap ActS.cells
theorem actsV_get (l : List ActS) : ∀ (k j : Nat) (hk : k < l.length), j < 5 → (actsV l)[k * 5 + j]? = (l[k].cells)[j]? := by
  induction l with
  | nil => intro k j hk; simp at hk
  | cons a l ih =>
    intro k j hk hj
    have e : actsV (a :: l) = a.cells ++ actsV l := rfl
    have h5 : a.cells.length = 5 := rfl
    rcases k with _ | k
    · rw [e, Nat.zero_mul, Nat.zero_add, List.getElem?_append_left (by omega)]
      rfl
    · rw [e, List.getElem?_append_right (by omega), h5, show (k + 1) * 5 + j - 5 = k * 5 + j by omega]
      exact ih k j (by simpa using hk) hj
theorem add_field (ad : Addr) (m j : Nat) (hj : 0 < j) : ({ block := (ad.add m).block, off := (ad.add m).off + j } : Addr) = ad.add (m + j) := by
  unfold Addr.add
  rw [if_neg (show ¬ m + j = 0 by omega)]
  split
  · subst m; simp
  · simp [Nat.add_assoc]
set_option maxRecDepth 100000 in
set_option maxHeartbeats 800000 in
theorem long_calls (A : Option Addr) (n c : Nat) (l : List ActS) (w : World) (ha : Rd w A (actsV l)) (hn : l.length = n) :
    Calls Try.prog 16 #[.slice A n c] w fun e w' => (e = .returned (.bool false) ∨ e = .returned (.bool true)) ∧ w' = w := by
  have HA := Lib.hid ha
  have HN := Lib.hid hn
  clear ha hn
  go_enter Try.func16, Try.ntmps16
  go_wp2_with fail
  go_loop [3, 4] (fun tn ti => ∃ (k : Nat) (z : Int), k ≤ n ∧ ti = .int .i64 k ∧ tn = .int .i64 z) (fun _ ti => n - (intOf ti).toNat)
  case atStart => exact ⟨0, 0, Nat.zero_le _, rfl, rfl⟩
  case round =>
    obtain ⟨k, z, hk, rfl, rfl⟩ := hrel
    by_cases hlt : k < n
    · have f1 : (k : Int) < n := by omega
      have f0 : (0 : Int) ≤ k := by omega
      by_cases h80 : k < 80
      · have f2 : (k : Int) < 80 := by omega
        have hkl : k < l.length := by have := HN.out; omega
        obtain ⟨ad, rfl, hc⟩ := HA.out (k * 5 + 2) (.slice l[k].A l[k].b.length l[k].c) (by rw [actsV_get l k 2 hkl (by decide)]; rfl)
        rw [← add_field ad (k * 5) 2 (by decide)] at hc
        generalize l[k].b.length = m at *
        generalize l[k].A = B at *
        generalize l[k].c = d at *
        by_cases hb : 9000 < wrap64 (wrap64 (z + 1) + m)
        · go_wp2_with fail
          go_ret
          exact ⟨.inr rfl, rfl⟩
        · go_wp2_with fail
          exact ⟨⟨k + 1, wrap64 (wrap64 (z + 1) + m), by omega, by go_num, rfl⟩, by simp [intOf]; omega⟩
      · have f2 : (80 : Int) ≤ k := by omega
        go_wp2_with fail
        go_ret
        exact ⟨.inl rfl, rfl⟩
    · have f1 : (n : Int) ≤ k := by omega
      go_wp2_with fail
      go_ret
      exact ⟨.inl rfl, rfl⟩
end Go.Proofs.Ytekjahofghmdgaa
