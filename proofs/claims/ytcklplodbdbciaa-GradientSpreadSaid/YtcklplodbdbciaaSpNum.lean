import Derived.Test.YtcklplodbdbciaaGradNum0
namespace Go.Proofs.Ytcklplodbdbciaa
set_option linter.unusedVariables false
set_option linter.unusedSimpArgs false
/- plain facts: offsets shifted by periods -/
theorem spV2 (t : Int) : spV t 2 = t % 65536 := by simp [spV]
theorem spV3 (t : Int) : spV t 3 = min (t % 131072) (131072 - t % 131072) := by simp [spV]
theorem spV1 (t : Int) : spV t 1 = clampV t 0 65536 := by simp [spV]
theorem sp_rep (t : Int) : spV (t + 65536) 2 = spV t 2 := by rw [spV2, spV2]; omega
theorem sp_ref1 (t : Int) : spV (-t) 3 = spV t 3 := by rw [spV3, spV3]; omega
theorem sp_ref2 (t : Int) : spV (t + 131072) 3 = spV t 3 := by rw [spV3, spV3]; omega
theorem sp_ref3 (t : Int) : spV (t + 65536) 3 = 65536 - spV t 3 := by rw [spV3, spV3]; omega
theorem sp_pad (t : Int) : spV (spV t 1) 1 = spV t 1 := by rw [spV1, spV1]; unfold clampV; split <;> (try split) <;> simp_all <;> omega
theorem sp_in (t : Int) (h0 : 0 ≤ t) (h1 : t ≤ 65536) : spV t 1 = t := by rw [spV1]; unfold clampV; rw [if_neg (by omega), if_neg (by omega)]
end Go.Proofs.Ytcklplodbdbciaa
