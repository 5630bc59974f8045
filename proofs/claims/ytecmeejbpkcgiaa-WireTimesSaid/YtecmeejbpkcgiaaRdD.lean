/- Reader.Bytes. -/
import Derived.Test.YtecmeejbpkcgiaaRdC
open Go Go.RowKit
namespace Go.Proofs.Ytecmeejbpkcgiaa
theorem rBytes_calls (g d : Nat) (s : RS) (w : World) (h : RdrAt w g d s) (hl : s.b.length ≤ 1000000000000) :
    Calls Try.prog 138 #[.pointer (some ⟨g, 0, none⟩)] w fun e w' => ∃ A n c, e = .returned (.slice A n c) ∧ Hid (n = s.row.1.length) ∧
      Hid (Own w' 5 1 A n c (bs s.row.1)) ∧ Hid (RdrAt w' g d s.row.2) ∧ Hid (Chg (fun k => k = g) w w') ∧ Hid (∀ ad, A = some ad → w.heap.size ≤ ad.block) := by
  have H := Lib.hid h
  have HL := Lib.hid hl
  clear h hl
  go_enter Try.func138, Try.ntmps138
  go_wp2_with fail
  refine (Num_calls g d s _ H.out HL.out).mono ?_
  rintro e w1 ⟨rfl, h1, h2⟩
  go_wp2_with fail
  refine (Raw_calls g d s.num.2 s.num.1 _ h1.out (Nat.le_trans s.num_le HL.out)).mono ?_
  rintro e w2 ⟨A, n, c, rfl, h3, h4, h5, h6, h7⟩
  go_wp2_with fail
  go_ret
  exact ⟨A, n, c, rfl, h3, h4, h5, h2.out.trans h6.out (fun _ _ h => h), fun ad e => by have h8 := h7.out ad e; have h9 := h2.out.size; omega⟩
end Go.Proofs.Ytecmeejbpkcgiaa
