/- The reference's Reader: rows. -/
import Derived.Test.YtecmeejbpkcgiaaRrB
open Go Go.RowKit
namespace Go.Proofs.Ytecmeejbpkcgiaa
theorem rrBytes_calls (g d : Nat) (s : RS) (w : World) (h : RRAt w g d s) (hl : s.b.length ≤ 1000000000000) :
    Calls Try.prog 88 #[.pointer (some ⟨g, 0, none⟩)] w fun e w' => ∃ A n c, e = .returned (.slice A n c) ∧ Hid (n = s.row.1.length) ∧
      Hid (Own w' 5 1 A n c (bs s.row.1)) ∧ Hid (RRAt w' g d s.row.2) ∧ Hid (Chg (fun k => k = g) w w') ∧ Hid (∀ ad, A = some ad → w.heap.size ≤ ad.block) := by
  have H := Lib.hid h
  have HL := Lib.hid hl
  clear h hl
  go_enter Try.func88, Try.ntmps88
  go_wp2_with fail
  refine (rrNum_calls g d s _ H.out HL.out).mono ?_
  rintro e w1 ⟨rfl, h1, h2⟩
  have hc2 : w1.cell? ⟨g, 1, none⟩ = some (.bool s.num.2.e) := by
    obtain ⟨⟨_, _, _, _, _, hb1, _⟩, _⟩ := h1.out
    exact hb1.cell 1
  rcases he : s.num.2.e with _ | _
  · rw [he] at hc2
    clear he
    go_wp2_with fail
    refine (rrRaw_calls g d s.num.2 s.num.1 _ h1.out (Nat.le_trans s.num_le HL.out)).mono ?_
    rintro e w2 ⟨A, n, c, rfl, h3, h4, h5, h6, h7⟩
    go_wp2_with fail
    go_ret
    exact ⟨A, n, c, rfl, h3, h4, h5, h2.out.trans h6.out (fun _ _ h => h), fun ad e => by have h8 := h7.out ad e; have h9 := h2.out.size; omega⟩
  · have hrow : s.row = ([], RS.bad) := by
      unfold RS.row RS.raw
      rw [if_pos (.inl he)]
    have hs := RS.eta_bad h1.out.ok he
    rw [hs] at h1
    have HROW := Lib.hid hrow
    rw [he] at hc2
    clear he hs hrow
    go_wp2_with fail
    go_ret
    rw [HROW.out]
    exact ⟨none, 0, 0, rfl, rfl, Own.nil _ _ _, h1, h2, fun ad e => by cases e⟩
end Go.Proofs.Ytecmeejbpkcgiaa
