/- The prime 2^255 - 19, by certificates. -/
import Derived.Test.YtmoeijgblhfpdabMath
import Derived.Test.YtmoeijgblhfpdabPrime
namespace Go.Proofs.Fd

theorem pr_3 : Pr 3 := cert_pr 2 [2] (by decide +kernel) (by
  intro l hl
  simp only [List.mem_cons, List.not_mem_nil, or_false] at hl
  rcases hl with rfl
  · exact pr_two
  )

theorem pr_17 : Pr 17 := cert_pr 3 [2, 2, 2, 2] (by decide +kernel) (by
  intro l hl
  simp only [List.mem_cons, List.not_mem_nil, or_false] at hl
  rcases hl with rfl | rfl | rfl | rfl
  · exact pr_two
  · exact pr_two
  · exact pr_two
  · exact pr_two
  )

theorem pr_7 : Pr 7 := cert_pr 3 [2, 3] (by decide +kernel) (by
  intro l hl
  simp only [List.mem_cons, List.not_mem_nil, or_false] at hl
  rcases hl with rfl | rfl
  · exact pr_two
  · exact pr_3
  )

theorem pr_239 : Pr 239 := cert_pr 7 [2, 7, 17] (by decide +kernel) (by
  intro l hl
  simp only [List.mem_cons, List.not_mem_nil, or_false] at hl
  rcases hl with rfl | rfl | rfl
  · exact pr_two
  · exact pr_7
  · exact pr_17
  )

theorem pr_479 : Pr 479 := cert_pr 13 [2, 239] (by decide +kernel) (by
  intro l hl
  simp only [List.mem_cons, List.not_mem_nil, or_false] at hl
  rcases hl with rfl | rfl
  · exact pr_two
  · exact pr_239
  )

theorem pr_32573 : Pr 32573 := cert_pr 2 [2, 2, 17, 479] (by decide +kernel) (by
  intro l hl
  simp only [List.mem_cons, List.not_mem_nil, or_false] at hl
  rcases hl with rfl | rfl | rfl | rfl
  · exact pr_two
  · exact pr_two
  · exact pr_17
  · exact pr_479
  )

theorem pr_65147 : Pr 65147 := cert_pr 2 [2, 32573] (by decide +kernel) (by
  intro l hl
  simp only [List.mem_cons, List.not_mem_nil, or_false] at hl
  rcases hl with rfl | rfl
  · exact pr_two
  · exact pr_32573
  )

theorem pr_5 : Pr 5 := cert_pr 2 [2, 2] (by decide +kernel) (by
  intro l hl
  simp only [List.mem_cons, List.not_mem_nil, or_false] at hl
  rcases hl with rfl | rfl
  · exact pr_two
  · exact pr_two
  )

theorem pr_11 : Pr 11 := cert_pr 2 [2, 5] (by decide +kernel) (by
  intro l hl
  simp only [List.mem_cons, List.not_mem_nil, or_false] at hl
  rcases hl with rfl | rfl
  · exact pr_two
  · exact pr_5
  )

theorem pr_353 : Pr 353 := cert_pr 3 [2, 2, 2, 2, 2, 11] (by decide +kernel) (by
  intro l hl
  simp only [List.mem_cons, List.not_mem_nil, or_false] at hl
  rcases hl with rfl | rfl | rfl | rfl | rfl | rfl
  · exact pr_two
  · exact pr_two
  · exact pr_two
  · exact pr_two
  · exact pr_two
  · exact pr_11
  )

theorem pr_29 : Pr 29 := cert_pr 2 [2, 2, 7] (by decide +kernel) (by
  intro l hl
  simp only [List.mem_cons, List.not_mem_nil, or_false] at hl
  rcases hl with rfl | rfl | rfl
  · exact pr_two
  · exact pr_two
  · exact pr_7
  )

theorem pr_59 : Pr 59 := cert_pr 2 [2, 29] (by decide +kernel) (by
  intro l hl
  simp only [List.mem_cons, List.not_mem_nil, or_false] at hl
  rcases hl with rfl | rfl
  · exact pr_two
  · exact pr_29
  )

theorem pr_487 : Pr 487 := cert_pr 3 [2, 3, 3, 3, 3, 3] (by decide +kernel) (by
  intro l hl
  simp only [List.mem_cons, List.not_mem_nil, or_false] at hl
  rcases hl with rfl | rfl | rfl | rfl | rfl | rfl
  · exact pr_two
  · exact pr_3
  · exact pr_3
  · exact pr_3
  · exact pr_3
  · exact pr_3
  )

theorem pr_57467 : Pr 57467 := cert_pr 2 [2, 59, 487] (by decide +kernel) (by
  intro l hl
  simp only [List.mem_cons, List.not_mem_nil, or_false] at hl
  rcases hl with rfl | rfl | rfl
  · exact pr_two
  · exact pr_59
  · exact pr_487
  )

theorem pr_13 : Pr 13 := cert_pr 2 [2, 2, 3] (by decide +kernel) (by
  intro l hl
  simp only [List.mem_cons, List.not_mem_nil, or_false] at hl
  rcases hl with rfl | rfl | rfl
  · exact pr_two
  · exact pr_two
  · exact pr_3
  )

theorem pr_131 : Pr 131 := cert_pr 2 [2, 5, 13] (by decide +kernel) (by
  intro l hl
  simp only [List.mem_cons, List.not_mem_nil, or_false] at hl
  rcases hl with rfl | rfl | rfl
  · exact pr_two
  · exact pr_5
  · exact pr_13
  )

theorem pr_132049 : Pr 132049 := cert_pr 26 [2, 2, 2, 2, 3, 3, 7, 131] (by decide +kernel) (by
  intro l hl
  simp only [List.mem_cons, List.not_mem_nil, or_false] at hl
  rcases hl with rfl | rfl | rfl | rfl | rfl | rfl | rfl | rfl
  · exact pr_two
  · exact pr_two
  · exact pr_two
  · exact pr_two
  · exact pr_3
  · exact pr_3
  · exact pr_7
  · exact pr_131
  )

theorem pr_43 : Pr 43 := cert_pr 3 [2, 3, 7] (by decide +kernel) (by
  intro l hl
  simp only [List.mem_cons, List.not_mem_nil, or_false] at hl
  rcases hl with rfl | rfl | rfl
  · exact pr_two
  · exact pr_3
  · exact pr_7
  )

theorem pr_23 : Pr 23 := cert_pr 5 [2, 11] (by decide +kernel) (by
  intro l hl
  simp only [List.mem_cons, List.not_mem_nil, or_false] at hl
  rcases hl with rfl | rfl
  · exact pr_two
  · exact pr_11
  )

theorem pr_3727 : Pr 3727 := cert_pr 3 [2, 3, 3, 3, 3, 23] (by decide +kernel) (by
  intro l hl
  simp only [List.mem_cons, List.not_mem_nil, or_false] at hl
  rcases hl with rfl | rfl | rfl | rfl | rfl | rfl
  · exact pr_two
  · exact pr_3
  · exact pr_3
  · exact pr_3
  · exact pr_3
  · exact pr_23
  )

theorem pr_1923133 : Pr 1923133 := cert_pr 2 [2, 2, 3, 43, 3727] (by decide +kernel) (by
  intro l hl
  simp only [List.mem_cons, List.not_mem_nil, or_false] at hl
  rcases hl with rfl | rfl | rfl | rfl | rfl
  · exact pr_two
  · exact pr_two
  · exact pr_3
  · exact pr_43
  · exact pr_3727
  )

theorem pr_31 : Pr 31 := cert_pr 3 [2, 3, 5] (by decide +kernel) (by
  intro l hl
  simp only [List.mem_cons, List.not_mem_nil, or_false] at hl
  rcases hl with rfl | rfl | rfl
  · exact pr_two
  · exact pr_3
  · exact pr_5
  )

theorem pr_53 : Pr 53 := cert_pr 2 [2, 2, 13] (by decide +kernel) (by
  intro l hl
  simp only [List.mem_cons, List.not_mem_nil, or_false] at hl
  rcases hl with rfl | rfl | rfl
  · exact pr_two
  · exact pr_two
  · exact pr_13
  )

theorem pr_107 : Pr 107 := cert_pr 2 [2, 53] (by decide +kernel) (by
  intro l hl
  simp only [List.mem_cons, List.not_mem_nil, or_false] at hl
  rcases hl with rfl | rfl
  · exact pr_two
  · exact pr_53
  )

theorem pr_37 : Pr 37 := cert_pr 2 [2, 2, 3, 3] (by decide +kernel) (by
  intro l hl
  simp only [List.mem_cons, List.not_mem_nil, or_false] at hl
  rcases hl with rfl | rfl | rfl | rfl
  · exact pr_two
  · exact pr_two
  · exact pr_3
  · exact pr_3
  )

theorem pr_223 : Pr 223 := cert_pr 3 [2, 3, 37] (by decide +kernel) (by
  intro l hl
  simp only [List.mem_cons, List.not_mem_nil, or_false] at hl
  rcases hl with rfl | rfl | rfl
  · exact pr_two
  · exact pr_3
  · exact pr_37
  )

theorem pr_173 : Pr 173 := cert_pr 2 [2, 2, 43] (by decide +kernel) (by
  intro l hl
  simp only [List.mem_cons, List.not_mem_nil, or_false] at hl
  rcases hl with rfl | rfl | rfl
  · exact pr_two
  · exact pr_two
  · exact pr_43
  )

theorem pr_4153 : Pr 4153 := cert_pr 5 [2, 2, 2, 3, 173] (by decide +kernel) (by
  intro l hl
  simp only [List.mem_cons, List.not_mem_nil, or_false] at hl
  rcases hl with rfl | rfl | rfl | rfl | rfl
  · exact pr_two
  · exact pr_two
  · exact pr_two
  · exact pr_3
  · exact pr_173
  )

theorem pr_41 : Pr 41 := cert_pr 6 [2, 2, 2, 5] (by decide +kernel) (by
  intro l hl
  simp only [List.mem_cons, List.not_mem_nil, or_false] at hl
  rcases hl with rfl | rfl | rfl | rfl
  · exact pr_two
  · exact pr_two
  · exact pr_two
  · exact pr_5
  )

theorem pr_1723 : Pr 1723 := cert_pr 3 [2, 3, 7, 41] (by decide +kernel) (by
  intro l hl
  simp only [List.mem_cons, List.not_mem_nil, or_false] at hl
  rcases hl with rfl | rfl | rfl | rfl
  · exact pr_two
  · exact pr_3
  · exact pr_7
  · exact pr_41
  )

theorem pr_430751 : Pr 430751 := cert_pr 17 [2, 5, 5, 5, 1723] (by decide +kernel) (by
  intro l hl
  simp only [List.mem_cons, List.not_mem_nil, or_false] at hl
  rcases hl with rfl | rfl | rfl | rfl | rfl
  · exact pr_two
  · exact pr_5
  · exact pr_5
  · exact pr_5
  · exact pr_1723
  )

theorem pr_31757755568855353 : Pr 31757755568855353 := cert_pr 10 [2, 2, 2, 3, 31, 107, 223, 4153, 430751] (by decide +kernel) (by
  intro l hl
  simp only [List.mem_cons, List.not_mem_nil, or_false] at hl
  rcases hl with rfl | rfl | rfl | rfl | rfl | rfl | rfl | rfl | rfl
  · exact pr_two
  · exact pr_two
  · exact pr_two
  · exact pr_3
  · exact pr_31
  · exact pr_107
  · exact pr_223
  · exact pr_4153
  · exact pr_430751
  )

theorem pr_19 : Pr 19 := cert_pr 2 [2, 3, 3] (by decide +kernel) (by
  intro l hl
  simp only [List.mem_cons, List.not_mem_nil, or_false] at hl
  rcases hl with rfl | rfl | rfl
  · exact pr_two
  · exact pr_3
  · exact pr_3
  )

theorem pr_83 : Pr 83 := cert_pr 2 [2, 41] (by decide +kernel) (by
  intro l hl
  simp only [List.mem_cons, List.not_mem_nil, or_false] at hl
  rcases hl with rfl | rfl
  · exact pr_two
  · exact pr_41
  )

theorem pr_9463 : Pr 9463 := cert_pr 3 [2, 3, 19, 83] (by decide +kernel) (by
  intro l hl
  simp only [List.mem_cons, List.not_mem_nil, or_false] at hl
  rcases hl with rfl | rfl | rfl | rfl
  · exact pr_two
  · exact pr_3
  · exact pr_19
  · exact pr_83
  )

theorem pr_37853 : Pr 37853 := cert_pr 2 [2, 2, 9463] (by decide +kernel) (by
  intro l hl
  simp only [List.mem_cons, List.not_mem_nil, or_false] at hl
  rcases hl with rfl | rfl | rfl
  · exact pr_two
  · exact pr_two
  · exact pr_9463
  )

theorem pr_75707 : Pr 75707 := cert_pr 2 [2, 37853] (by decide +kernel) (by
  intro l hl
  simp only [List.mem_cons, List.not_mem_nil, or_false] at hl
  rcases hl with rfl | rfl
  · exact pr_two
  · exact pr_37853
  )

theorem pr_2437 : Pr 2437 := cert_pr 2 [2, 2, 3, 7, 29] (by decide +kernel) (by
  intro l hl
  simp only [List.mem_cons, List.not_mem_nil, or_false] at hl
  rcases hl with rfl | rfl | rfl | rfl | rfl
  · exact pr_two
  · exact pr_two
  · exact pr_3
  · exact pr_7
  · exact pr_29
  )

theorem pr_97 : Pr 97 := cert_pr 5 [2, 2, 2, 2, 2, 3] (by decide +kernel) (by
  intro l hl
  simp only [List.mem_cons, List.not_mem_nil, or_false] at hl
  rcases hl with rfl | rfl | rfl | rfl | rfl | rfl
  · exact pr_two
  · exact pr_two
  · exact pr_two
  · exact pr_two
  · exact pr_two
  · exact pr_3
  )

theorem pr_419 : Pr 419 := cert_pr 2 [2, 11, 19] (by decide +kernel) (by
  intro l hl
  simp only [List.mem_cons, List.not_mem_nil, or_false] at hl
  rcases hl with rfl | rfl | rfl
  · exact pr_two
  · exact pr_11
  · exact pr_19
  )

theorem pr_569003 : Pr 569003 := cert_pr 2 [2, 7, 97, 419] (by decide +kernel) (by
  intro l hl
  simp only [List.mem_cons, List.not_mem_nil, or_false] at hl
  rcases hl with rfl | rfl | rfl | rfl
  · exact pr_two
  · exact pr_7
  · exact pr_97
  · exact pr_419
  )

theorem pr_2773320623 : Pr 2773320623 := cert_pr 5 [2, 2437, 569003] (by decide +kernel) (by
  intro l hl
  simp only [List.mem_cons, List.not_mem_nil, or_false] at hl
  rcases hl with rfl | rfl | rfl
  · exact pr_two
  · exact pr_2437
  · exact pr_569003
  )

theorem pr_72106336199 : Pr 72106336199 := cert_pr 7 [2, 13, 2773320623] (by decide +kernel) (by
  intro l hl
  simp only [List.mem_cons, List.not_mem_nil, or_false] at hl
  rcases hl with rfl | rfl | rfl
  · exact pr_two
  · exact pr_13
  · exact pr_2773320623
  )

theorem pr_47 : Pr 47 := cert_pr 5 [2, 23] (by decide +kernel) (by
  intro l hl
  simp only [List.mem_cons, List.not_mem_nil, or_false] at hl
  rcases hl with rfl | rfl
  · exact pr_two
  · exact pr_23
  )

theorem pr_127 : Pr 127 := cert_pr 3 [2, 3, 3, 7] (by decide +kernel) (by
  intro l hl
  simp only [List.mem_cons, List.not_mem_nil, or_false] at hl
  rcases hl with rfl | rfl | rfl | rfl
  · exact pr_two
  · exact pr_3
  · exact pr_3
  · exact pr_7
  )

theorem pr_103 : Pr 103 := cert_pr 5 [2, 3, 17] (by decide +kernel) (by
  intro l hl
  simp only [List.mem_cons, List.not_mem_nil, or_false] at hl
  rcases hl with rfl | rfl | rfl
  · exact pr_two
  · exact pr_3
  · exact pr_17
  )

theorem pr_991 : Pr 991 := cert_pr 6 [2, 3, 3, 5, 11] (by decide +kernel) (by
  intro l hl
  simp only [List.mem_cons, List.not_mem_nil, or_false] at hl
  rcases hl with rfl | rfl | rfl | rfl | rfl
  · exact pr_two
  · exact pr_3
  · exact pr_3
  · exact pr_5
  · exact pr_11
  )

theorem pr_8574133 : Pr 8574133 := cert_pr 2 [2, 2, 3, 7, 103, 991] (by decide +kernel) (by
  intro l hl
  simp only [List.mem_cons, List.not_mem_nil, or_false] at hl
  rcases hl with rfl | rfl | rfl | rfl | rfl | rfl
  · exact pr_two
  · exact pr_two
  · exact pr_3
  · exact pr_7
  · exact pr_103
  · exact pr_991
  )

theorem pr_1919519569386763 : Pr 1919519569386763 := cert_pr 2 [2, 3, 7, 19, 47, 47, 127, 8574133] (by decide +kernel) (by
  intro l hl
  simp only [List.mem_cons, List.not_mem_nil, or_false] at hl
  rcases hl with rfl | rfl | rfl | rfl | rfl | rfl | rfl | rfl
  · exact pr_two
  · exact pr_3
  · exact pr_7
  · exact pr_19
  · exact pr_47
  · exact pr_47
  · exact pr_127
  · exact pr_8574133
  )

theorem pr_75445702479781427272750846543864801 : Pr 75445702479781427272750846543864801 := cert_pr 7 [2, 2, 2, 2, 2, 3, 3, 5, 5, 75707, 72106336199, 1919519569386763] (by decide +kernel) (by
  intro l hl
  simp only [List.mem_cons, List.not_mem_nil, or_false] at hl
  rcases hl with rfl | rfl | rfl | rfl | rfl | rfl | rfl | rfl | rfl | rfl | rfl | rfl
  · exact pr_two
  · exact pr_two
  · exact pr_two
  · exact pr_two
  · exact pr_two
  · exact pr_3
  · exact pr_3
  · exact pr_5
  · exact pr_5
  · exact pr_75707
  · exact pr_72106336199
  · exact pr_1919519569386763
  )

theorem pr_74058212732561358302231226437062788676166966415465897661863160754340907 : Pr 74058212732561358302231226437062788676166966415465897661863160754340907 := cert_pr 2 [2, 3, 353, 57467, 132049, 1923133, 31757755568855353, 75445702479781427272750846543864801] (by decide +kernel) (by
  intro l hl
  simp only [List.mem_cons, List.not_mem_nil, or_false] at hl
  rcases hl with rfl | rfl | rfl | rfl | rfl | rfl | rfl | rfl
  · exact pr_two
  · exact pr_3
  · exact pr_353
  · exact pr_57467
  · exact pr_132049
  · exact pr_1923133
  · exact pr_31757755568855353
  · exact pr_75445702479781427272750846543864801
  )

theorem p_cert : cert 2 p [2, 2, 3, 65147, 74058212732561358302231226437062788676166966415465897661863160754340907] = true := by decide +kernel

theorem p_list : ∀ l ∈ [2, 2, 3, 65147, 74058212732561358302231226437062788676166966415465897661863160754340907], Pr l := by
  intro l hl
  simp only [List.mem_cons, List.not_mem_nil, or_false] at hl
  rcases hl with rfl | rfl | rfl | rfl | rfl
  · exact pr_two
  · exact pr_two
  · exact pr_3
  · exact pr_65147
  · exact pr_74058212732561358302231226437062788676166966415465897661863160754340907

theorem p_prime : Pr p := cert_pr 2 _ p_cert p_list

/-- Fermat: an element that is not 0, to the power p - 1, is 1. -/
theorem p_fermat (a : Nat) (h0 : 0 < a) (ha : a < p) : a ^ (p - 1) % p = 1 := by
  obtain ⟨h1, h2, h3, h4⟩ := cert_out p_cert
  exact fermat h1 _ p_list h2 h3 h4 a h0 ha

end Go.Proofs.Fd
