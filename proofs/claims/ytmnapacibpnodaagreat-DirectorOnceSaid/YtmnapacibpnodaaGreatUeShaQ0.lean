/- ShaP, ShaQ0 -/
import Derived.Test.YtmnapacibpnodaaGreatUeShaV
import Derived.Test.YtmnapacibpnodaaGreatUeRpN
import Derived.Test.YtmnapacibpnodaaGreatUeQmR
import Derived.Test.YtmnapacibpnodaaGreatUeMkU
section
open Go Go.RowKit
namespace Go.Proofs.YtmnapacibpnodaaGreat
theorem be_35 : val (be64 (8 * 35)) = 8 * 35 := by decide
theorem be_65 : val (be64 (8 * 65)) = 8 * 65 := by decide
theorem be_33 : val (be64 (8 * 33)) = 8 * 33 := by decide
theorem be_1153 : val (be64 (8 * 1153)) = 8 * 1153 := by decide
theorem b8_nat (n : Nat) (h : n < 256) : (b8 (n : Int)).toNat = n := by
  unfold b8
  rw [UInt8.toNat_ofNat']
  omega
section
variable {β : Type}
noncomputable def secK (s leaf chain : Nat) (k : Nat → β) : β := shaK (s * 65536 + (leaf * 256 + chain)) 35 k
noncomputable def stepK (chain i h : Nat) (k : Nat → β) : β := shaK ((65536 + (chain * 256 + i)) * 115792089237316195423570985008687907853269984665640564039457584007913129639936 + h) 35 k
noncomputable def nodeK (x y : Nat) (k : Nat → β) : β := shaK ((3 * 115792089237316195423570985008687907853269984665640564039457584007913129639936 + x) * 115792089237316195423570985008687907853269984665640564039457584007913129639936 + y) 65 k
noncomputable def endK (s leaf chain : Nat) (k : Nat → β) : β := secK s leaf chain fun h0 => stepK chain 0 h0 fun h1 => stepK chain 1 h1 fun h2 => stepK chain 2 h2 k
noncomputable def lvK (s leaf : Nat) (n : Nat) : Nat → (Nat → β) → β :=
  Nat.rec (motive := fun _ => Nat → (Nat → β) → β) (fun acc k => k acc) (fun n ih acc k => fo (Nat.sub 35 n) fun chain => endK s leaf chain fun h => fo (acc * 115792089237316195423570985008687907853269984665640564039457584007913129639936 + h) fun acc1 => ih acc1 k) n
noncomputable def leafK (s leaf : Nat) (k : Nat → β) : β := lvK s leaf 36 2 fun N => shaK N 1153 k
theorem pow32 : (256 : Nat) ^ 32 = 115792089237316195423570985008687907853269984665640564039457584007913129639936 := by decide
theorem secK_eq (seed : H32) (leaf chain : Nat) (h1 : leaf < 256) (h2 : chain < 256) (k : Nat → β) : secK (val seed.l) leaf chain k = k (val (secretS seed (leaf : Int) (chain : Int)).l) := by
  have hv : val (secretRow seed (leaf : Int) (chain : Int)) = val seed.l * 65536 + (leaf * 256 + chain) := by
    unfold secretRow
    rw [val_cons, val_app, val_cons, val_cons, val_nil, b8_nat _ h1, b8_nat _ h2]
    simp
  unfold secK
  rw [← hv]
  exact shaK_eq _ 35 (secretRow_len _ _ _) be_35 k
theorem stepK_eq (chain i : Nat) (h : H32) (h1 : chain < 256) (h2 : i < 256) (k : Nat → β) : stepK chain i (val h.l) k = k (val (stepH (chain : Int) i h).l) := by
  have hv : val (walkRow (chain : Int) i h) = (65536 + (chain * 256 + i)) * 115792089237316195423570985008687907853269984665640564039457584007913129639936 + val h.l := by
    unfold walkRow
    simp only [val_cons, b8_nat _ h1, b8_nat _ h2, h.len, List.length_cons, Nat.pow_succ]
    simp
    omega
  unfold stepK
  rw [← hv]
  exact shaK_eq _ 35 (by simp [walkRow, h.len]) be_35 k
theorem nodeK_eq (a b : H32) (k : Nat → β) : nodeK (val a.l) (val b.l) k = k (val (nodeH a b).l) := by
  have hv : val ((3 : UInt8) :: (a.l ++ b.l)) = (3 * 115792089237316195423570985008687907853269984665640564039457584007913129639936 + val a.l) * 115792089237316195423570985008687907853269984665640564039457584007913129639936 + val b.l := by
    rw [val_cons, val_app, List.length_append, a.len, b.len, Nat.pow_add, pow32]
    rw [Nat.add_mul, Nat.mul_assoc, Nat.add_assoc]
    rfl
  unfold nodeK
  rw [← hv]
  exact shaK_eq _ 65 (by simp [a.len, b.len]) be_65 k
theorem walk3 (chain : Int) (h : H32) : walkS chain 0 3 h = stepH chain 2 (stepH chain 1 (stepH chain 0 h)) := rfl
theorem endK_eq (seed : H32) (leaf chain : Nat) (h1 : leaf < 256) (h2 : chain < 256) (k : Nat → β) : endK (val seed.l) leaf chain k = k (val (walkS (chain : Int) 0 3 (secretS seed (leaf : Int) (chain : Int))).l) := by
  unfold endK
  rw [secK_eq seed leaf chain h1 h2, stepK_eq chain 0 _ h2 (by decide), stepK_eq chain 1 _ h2 (by decide), stepK_eq chain 2 _ h2 (by decide), walk3]
theorem lvK_zero (s leaf acc : Nat) (k : Nat → β) : lvK s leaf 0 acc k = k acc := rfl
theorem lvK_succ (s leaf n acc : Nat) (k : Nat → β) : lvK s leaf (n + 1) acc k = fo (Nat.sub 35 n) fun chain => endK s leaf chain fun h => fo (acc * 115792089237316195423570985008687907853269984665640564039457584007913129639936 + h) fun acc1 => lvK s leaf n acc1 k := rfl
/-- the ends of the first chains -/
def endsL (seed : H32) (leaf : Nat) (n : Nat) : List H32 := (List.range n).map fun (i : Nat) => walkS (i : Int) 0 3 (secretS seed (leaf : Int) (i : Int))
theorem lvK_eq (seed : H32) (leaf : Nat) (h1 : leaf < 256) (k : Nat → β) : ∀ n, n ≤ 36 → lvK (val seed.l) leaf n (val (2 :: joinH (endsL seed leaf (36 - n)))) k = k (val (2 :: joinH (endsL seed leaf 36)))
  | 0, _ => lvK_zero _ _ _ _
  | n + 1, h => by
    have e1 : Nat.sub 35 n = 36 - (n + 1) := by
      show 35 - n = 36 - (n + 1)
      omega
    have e2 : 36 - n = 36 - (n + 1) + 1 := by omega
    obtain ⟨i, hi⟩ : ∃ i, i = 36 - (n + 1) := ⟨_, rfl⟩
    have ih := lvK_eq seed leaf h1 k n (by omega)
    rw [e2] at ih
    rw [lvK_succ, fo_eq, e1]
    rw [← hi] at ih ⊢
    rw [endK_eq seed leaf i h1 (by omega), fo_eq]
    have e3 : endsL seed leaf (i + 1) = endsL seed leaf i ++ [walkS (i : Int) 0 3 (secretS seed (leaf : Int) (i : Int))] := by
      unfold endsL
      rw [List.range_succ, List.map_append]
      rfl
    have e4 : val (2 :: joinH (endsL seed leaf (i + 1))) = val (2 :: joinH (endsL seed leaf i)) * 115792089237316195423570985008687907853269984665640564039457584007913129639936 + val (walkS (i : Int) 0 3 (secretS seed (leaf : Int) (i : Int))).l := by
      rw [e3]
      have e5 : (2 : UInt8) :: joinH (endsL seed leaf i ++ [walkS (i : Int) 0 3 (secretS seed (leaf : Int) (i : Int))]) = ((2 : UInt8) :: joinH (endsL seed leaf i)) ++ (walkS (i : Int) 0 3 (secretS seed (leaf : Int) (i : Int))).l := by
        simp [joinH]
      rw [e5, val_app, H32.len, pow32]
    rw [← e4]
    exact ih
theorem closed_val (l : List H32) : (closedS l).l = sha (2 :: joinH l) := rfl
theorem ends_gen (seed : H32) (leaf n : Nat) (h : n ≤ 36) : mapH (fun h i => walkS i 0 3 h) (secretsS seed (leaf : Int)) n = endsL seed leaf n := by
  unfold mapH endsL
  refine List.map_congr_left fun i hi => ?_
  have hi36 : i < 36 := Nat.lt_of_lt_of_le (List.mem_range.1 hi) h
  have e : hget (secretsS seed (leaf : Int)) i = secretS seed (leaf : Int) (i : Int) := by
    unfold secretsS
    exact hget_mapH (fun _ i => secretS seed leaf i) _ 36 i hi36
  rw [e]
theorem public_ends (seed : H32) (leaf : Nat) : publicS seed (leaf : Int) = closedS (endsL seed leaf 36) := by
  unfold publicS
  rw [ends_gen seed leaf 36 (Nat.le_refl _)]
theorem leafK_eq (seed : H32) (leaf : Nat) (h1 : leaf < 256) (k : Nat → β) : leafK (val seed.l) leaf k = k (val (publicS seed (leaf : Int)).l) := by
  have h := lvK_eq seed leaf h1 (fun N => shaK N 1153 k) 36 (Nat.le_refl _)
  have e1 : val (2 :: joinH (endsL seed leaf (36 - 36))) = 2 := by
    rw [Nat.sub_self]
    rfl
  have e3 : ((2 : UInt8) :: joinH (endsL seed leaf 36)).length = 1153 := by
    rw [List.length_cons, joinH_len]
    simp [endsL]
  rw [e1] at h
  unfold leafK
  rw [h, shaK_eq _ 1153 e3 be_1153, public_ends, closed_val]
noncomputable def rootG (f : Nat → (Nat → β) → β) : Nat → Nat → (Nat → β) → β :=
  fun d => Nat.rec (motive := fun _ => Nat → (Nat → β) → β) (fun b k => f b k) (fun d ih b k => ih b fun x => fo (b + 2 ^ d) fun b2 => ih b2 fun y => nodeK x y k) d
theorem rootG_zero (f : Nat → (Nat → β) → β) (b : Nat) (k : Nat → β) : rootG f 0 b k = f b k := rfl
theorem rootG_succ (f : Nat → (Nat → β) → β) (d b : Nat) (k : Nat → β) : rootG f (d + 1) b k = rootG f d b fun x => fo (b + 2 ^ d) fun b2 => rootG f d b2 fun y => nodeK x y k := rfl
theorem halfPowP (d : Nat) : halfN (2 ^ (d + 1)) = 2 ^ d := by
  obtain ⟨h1, h2, h3⟩ := halfN_in (2 ^ (d + 1)) (by rw [Nat.pow_succ]; have := Nat.one_le_two_pow (n := d); omega)
  unfold halfN at *
  have h0 := Nat.one_le_two_pow (n := d)
  have h4 : 2 ^ (d + 1) - 1 ≠ 0 := by rw [Nat.pow_succ]; omega
  have h5 : Nat.log2 (2 ^ (d + 1) - 1) = d := by
    rw [Nat.log2_eq_iff h4, Nat.pow_succ]
    omega
  rw [h5]
theorem rootG_eq (f : Nat → (Nat → β) → β) (seed : H32) (hf : ∀ b, b < 16 → ∀ k, f b k = k (val (publicS seed (b : Int)).l)) (l : List H32) (hl : ∀ b, b < l.length → hget l b = publicS seed (b : Int)) (hn : l.length ≤ 16) : ∀ (d b : Nat) (k : Nat → β), b + 2 ^ d ≤ l.length → rootG f d b k = k (val (rootL (sub l b (b + 2 ^ d))).l)
  | 0, b, k, h => by
    have hb : b < l.length := h
    rw [rootG_zero, hf b (by omega), ← hl b hb, show b + 2 ^ 0 = b + 1 from rfl, sub_one l b hb]
    rfl
  | d + 1, b, k, h => by
    have hp : (2 : Nat) ^ (d + 1) = 2 ^ d + 2 ^ d := by rw [Nat.pow_succ]; omega
    have h0 := Nat.one_le_two_pow (n := d)
    have hs := root_split l b (b + 2 ^ (d + 1)) (by omega) h
    rw [Nat.add_sub_cancel_left, halfPowP] at hs
    rw [rootG_succ, rootG_eq f seed hf l hl hn d b _ (by omega), fo_eq, rootG_eq f seed hf l hl hn d (b + 2 ^ d) _ (by omega), nodeK_eq, hs]
    rw [show b + 2 ^ d + 2 ^ d = b + 2 ^ (d + 1) by omega]
/-- the public one of sixteen that are known, as a number -/
noncomputable def pubG (f : Nat → (Nat → β) → β) (k : Nat → β) : β := rootG f 4 0 fun r => shaK (4 * 115792089237316195423570985008687907853269984665640564039457584007913129639936 + r) 33 k
theorem pubG_eq (f : Nat → (Nat → β) → β) (seed : H32) (hf : ∀ b, b < 16 → ∀ k, f b k = k (val (publicS seed (b : Int)).l)) (k : Nat → β) : pubG f k = k (val (pubS seed).l) := by
  have h16 := leavesS_len seed
  have h := rootG_eq f seed hf (leavesS seed) (fun b hb => by simp [hget, leavesS, List.getD_eq_getElem?_getD, show b < 16 by omega]) (by omega) 4 0 (fun r => shaK (4 * 115792089237316195423570985008687907853269984665640564039457584007913129639936 + r) 33 k) (by omega)
  unfold pubG
  rw [h]
  have hs : sub (leavesS seed) 0 (0 + 2 ^ 4) = leavesS seed := by
    rw [show 0 + 2 ^ 4 = (leavesS seed).length by rw [h16], sub_all]
  rw [hs]
  have hv : val ((4 : UInt8) :: (rootL (leavesS seed)).l) = 4 * 115792089237316195423570985008687907853269984665640564039457584007913129639936 + val (rootL (leavesS seed)).l := by
    rw [val_cons, H32.len, pow32]
    rfl
  rw [← hv]
  exact shaK_eq _ 33 (by simp) be_33 k
end
end Go.Proofs.YtmnapacibpnodaaGreat
end
section
open Go Go.RowKit
namespace Go.Proofs.YtmnapacibpnodaaGreat
theorem leaf0_0 : leafK 0 0 (fun x => x) = 54802885537902602889272424130495857183225567782661690456302686019164379197560 := @Nat.eq_of_beq_eq_true (leafK 0 0 (fun x => x)) 54802885537902602889272424130495857183225567782661690456302686019164379197560 (by decide +kernel)
theorem leaf0_1 : leafK 0 1 (fun x => x) = 52604667366556059581303153619930707972495430988791487229752084431192690117246 := @Nat.eq_of_beq_eq_true (leafK 0 1 (fun x => x)) 52604667366556059581303153619930707972495430988791487229752084431192690117246 (by decide +kernel)
theorem leaf0_2 : leafK 0 2 (fun x => x) = 11855123082242455309945516683268097367839407363446859901297728347537952193597 := @Nat.eq_of_beq_eq_true (leafK 0 2 (fun x => x)) 11855123082242455309945516683268097367839407363446859901297728347537952193597 (by decide +kernel)
theorem leaf0_3 : leafK 0 3 (fun x => x) = 90909209430407821881778279485231820811498895207672420018227897597411818177319 := @Nat.eq_of_beq_eq_true (leafK 0 3 (fun x => x)) 90909209430407821881778279485231820811498895207672420018227897597411818177319 (by decide +kernel)
theorem leaf0_4 : leafK 0 4 (fun x => x) = 14321095738639895691922231970690648715442550540297384129095467726881628659631 := @Nat.eq_of_beq_eq_true (leafK 0 4 (fun x => x)) 14321095738639895691922231970690648715442550540297384129095467726881628659631 (by decide +kernel)
theorem leaf0_5 : leafK 0 5 (fun x => x) = 18216697700132625018240331811991098125620987702933996201539884165306963879849 := @Nat.eq_of_beq_eq_true (leafK 0 5 (fun x => x)) 18216697700132625018240331811991098125620987702933996201539884165306963879849 (by decide +kernel)
theorem leaf0_6 : leafK 0 6 (fun x => x) = 39477592737692998769026028105357460131661205360878436504069880434616558283495 := @Nat.eq_of_beq_eq_true (leafK 0 6 (fun x => x)) 39477592737692998769026028105357460131661205360878436504069880434616558283495 (by decide +kernel)
theorem leaf0_7 : leafK 0 7 (fun x => x) = 28621452022299495581621235455778422975521210865910637125976325147071351126518 := @Nat.eq_of_beq_eq_true (leafK 0 7 (fun x => x)) 28621452022299495581621235455778422975521210865910637125976325147071351126518 (by decide +kernel)
theorem leaf0_8 : leafK 0 8 (fun x => x) = 28016519299332693492046860305610524095004836092247288288802918646340594150991 := @Nat.eq_of_beq_eq_true (leafK 0 8 (fun x => x)) 28016519299332693492046860305610524095004836092247288288802918646340594150991 (by decide +kernel)
theorem leaf0_9 : leafK 0 9 (fun x => x) = 73077342491653620018024838467840231668021698325181072180192631353637007281981 := @Nat.eq_of_beq_eq_true (leafK 0 9 (fun x => x)) 73077342491653620018024838467840231668021698325181072180192631353637007281981 (by decide +kernel)
theorem leaf0_10 : leafK 0 10 (fun x => x) = 73800355136874602225170612216514545007812868052536197275454645832470860234350 := @Nat.eq_of_beq_eq_true (leafK 0 10 (fun x => x)) 73800355136874602225170612216514545007812868052536197275454645832470860234350 (by decide +kernel)
theorem leaf0_11 : leafK 0 11 (fun x => x) = 40653978813240472251794220416803267100432007496138985893750120294819593903412 := @Nat.eq_of_beq_eq_true (leafK 0 11 (fun x => x)) 40653978813240472251794220416803267100432007496138985893750120294819593903412 (by decide +kernel)
theorem leaf0_12 : leafK 0 12 (fun x => x) = 25015008516000759151785403601339528352337664945190691736994530788957433817605 := @Nat.eq_of_beq_eq_true (leafK 0 12 (fun x => x)) 25015008516000759151785403601339528352337664945190691736994530788957433817605 (by decide +kernel)
theorem leaf0_13 : leafK 0 13 (fun x => x) = 40624042166651160057830380251754600136202591361796926741054029587307117736947 := @Nat.eq_of_beq_eq_true (leafK 0 13 (fun x => x)) 40624042166651160057830380251754600136202591361796926741054029587307117736947 (by decide +kernel)
theorem leaf0_14 : leafK 0 14 (fun x => x) = 112603530991075382517527681244133514149333460097006618803516462480848375431636 := @Nat.eq_of_beq_eq_true (leafK 0 14 (fun x => x)) 112603530991075382517527681244133514149333460097006618803516462480848375431636 (by decide +kernel)
theorem leaf0_15 : leafK 0 15 (fun x => x) = 25504116083232500630351744468799921202765510033724201024374999388004732283941 := @Nat.eq_of_beq_eq_true (leafK 0 15 (fun x => x)) 25504116083232500630351744468799921202765510033724201024374999388004732283941 (by decide +kernel)
def leaves0 : List Nat := [54802885537902602889272424130495857183225567782661690456302686019164379197560,
  52604667366556059581303153619930707972495430988791487229752084431192690117246,
  11855123082242455309945516683268097367839407363446859901297728347537952193597,
  90909209430407821881778279485231820811498895207672420018227897597411818177319,
  14321095738639895691922231970690648715442550540297384129095467726881628659631,
  18216697700132625018240331811991098125620987702933996201539884165306963879849,
  39477592737692998769026028105357460131661205360878436504069880434616558283495,
  28621452022299495581621235455778422975521210865910637125976325147071351126518,
  28016519299332693492046860305610524095004836092247288288802918646340594150991,
  73077342491653620018024838467840231668021698325181072180192631353637007281981,
  73800355136874602225170612216514545007812868052536197275454645832470860234350,
  40653978813240472251794220416803267100432007496138985893750120294819593903412,
  25015008516000759151785403601339528352337664945190691736994530788957433817605,
  40624042166651160057830380251754600136202591361796926741054029587307117736947,
  112603530991075382517527681244133514149333460097006618803516462480848375431636,
  25504116083232500630351744468799921202765510033724201024374999388004732283941]
theorem leaves0_all (b : Nat) (h : b < 16) : leafK 0 b (fun x => x) = leaves0.getD b 0 := by
  rcases (show b = 0 ∨ b = 1 ∨ b = 2 ∨ b = 3 ∨ b = 4 ∨ b = 5 ∨ b = 6 ∨ b = 7 ∨ b = 8 ∨ b = 9 ∨ b = 10 ∨ b = 11 ∨ b = 12 ∨ b = 13 ∨ b = 14 ∨ b = 15 by omega) with rfl | rfl | rfl | rfl | rfl | rfl | rfl | rfl | rfl | rfl | rfl | rfl | rfl | rfl | rfl | rfl
  · rw [leaf0_0]
    rfl
  · rw [leaf0_1]
    rfl
  · rw [leaf0_2]
    rfl
  · rw [leaf0_3]
    rfl
  · rw [leaf0_4]
    rfl
  · rw [leaf0_5]
    rfl
  · rw [leaf0_6]
    rfl
  · rw [leaf0_7]
    rfl
  · rw [leaf0_8]
    rfl
  · rw [leaf0_9]
    rfl
  · rw [leaf0_10]
    rfl
  · rw [leaf0_11]
    rfl
  · rw [leaf0_12]
    rfl
  · rw [leaf0_13]
    rfl
  · rw [leaf0_14]
    rfl
  · rw [leaf0_15]
    rfl
theorem root0 : pubG (fun b (k : Nat → Nat) => fo (leaves0.getD b 0) k) (fun x => x) = 26551053580989741120393087615610940331466392596056817311595636306208865291411 := @Nat.eq_of_beq_eq_true (pubG (fun b (k : Nat → Nat) => fo (leaves0.getD b 0) k) (fun x => x)) 26551053580989741120393087615610940331466392596056817311595636306208865291411 (by decide +kernel)
theorem pub_val0 (seed : H32) (h : val seed.l = 0) : val (pubS seed).l = 26551053580989741120393087615610940331466392596056817311595636306208865291411 := by
  have h1 := pubG_eq (fun b (k : Nat → Nat) => fo (leaves0.getD b 0) k) seed (fun b hb k => by
    have h2 := leafK_eq seed b (by omega) (fun x => x)
    rw [h, leaves0_all b hb] at h2
    rw [fo_eq, h2]) (fun x => x)
  exact h1.symm.trans root0
end Go.Proofs.YtmnapacibpnodaaGreat
end
