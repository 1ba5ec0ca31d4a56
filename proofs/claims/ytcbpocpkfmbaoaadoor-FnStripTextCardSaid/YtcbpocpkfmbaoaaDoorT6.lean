import Derived.Test.YtcbpocpkfmbaoaaDoorT5
namespace Go.Proofs.YtcbpocpkfmbaoaaDoor
open Go.RowKit
theorem prL_app (a b : List UInt8) : prL (a ++ b) = (prL a && prL b) := by unfold prL; rw [List.all_append]
theorem prL_rep {c : UInt8} (h : okByte c = true) (k : Nat) : prL (rep c k) = true := by
  unfold prL rep
  rw [List.all_eq_true]
  intro x hx
  rw [List.eq_of_mem_replicate hx]
  exact h
theorem prL_sub {a b : List UInt8} (h : ∀ x ∈ a, x ∈ b) (hb : prL b = true) : prL a = true := by
  unfold prL at *
  rw [List.all_eq_true] at *
  exact fun x hx => hb x (h x hx)
theorem trL_mem {c : UInt8} {l : List UInt8} {x : UInt8} (h : x ∈ trL c l) : x ∈ l := (List.dropWhile_suffix (fun b => b == c)).subset h
theorem trR_mem {c : UInt8} {l : List UInt8} {x : UInt8} (h : x ∈ trR c l) : x ∈ l := by
  unfold trR at h
  rw [List.mem_reverse] at h
  exact List.mem_reverse.1 (trL_mem h)
theorem trL_ne {c b : UInt8} {r : List UInt8} (h : b ≠ c) : trL c (b :: r) = b :: r := by
  unfold trL
  rw [List.dropWhile_cons_of_neg (by simpa using h)]
theorem trL_eq (c : UInt8) (r : List UInt8) : trL c (c :: r) = trL c r := by
  unfold trL
  rw [List.dropWhile_cons_of_pos (by simp)]
theorem trL_head (c : UInt8) : ∀ l : List UInt8, trL c l = [] ∨ ∃ b r, trL c l = b :: r ∧ b ≠ c
  | [] => .inl rfl
  | b :: l => by
    by_cases h : b = c
    · subst h
      rw [trL_eq]
      exact trL_head _ l
    · exact .inr ⟨b, l, trL_ne h, h⟩
theorem trL_idem (c : UInt8) (l : List UInt8) : trL c (trL c l) = trL c l := by
  rcases trL_head c l with h | ⟨b, r, h, hb⟩
  · rw [h]; rfl
  · rw [h, trL_ne hb]
theorem trL_rep (c : UInt8) (x : List UInt8) : ∀ k : Nat, trL c (rep c k ++ x) = trL c x
  | 0 => rfl
  | k + 1 => by
    show trL c (c :: (rep c k ++ x)) = _
    rw [trL_eq, trL_rep c x k]
theorem trR_rep (c : UInt8) (x : List UInt8) (k : Nat) : trR c (x ++ rep c k) = trR c x := by
  unfold trR
  rw [List.reverse_append, show (rep c k).reverse = rep c k from List.reverse_replicate, trL_rep]
theorem trR_idem (c : UInt8) (l : List UInt8) : trR c (trR c l) = trR c l := by
  unfold trR
  rw [List.reverse_reverse, trL_idem]
theorem trR_snoc {c b : UInt8} {r : List UInt8} (h : b ≠ c) : trR c (r ++ [b]) = r ++ [b] := by
  unfold trR
  rw [List.reverse_append]
  show (trL c (b :: r.reverse)).reverse = _
  rw [trL_ne h]
  simp
theorem trR_last (c : UInt8) (l : List UInt8) : trR c l = [] ∨ ∃ r b, trR c l = r ++ [b] ∧ b ≠ c := by
  unfold trR
  rcases trL_head c l.reverse with h | ⟨b, r, h, hb⟩
  · rw [h]; exact .inl rfl
  · rw [h]; exact .inr ⟨r.reverse, b, by simp, hb⟩
/-- taken off at the end, and then at the beginning: nothing is left to take off at the end -/
theorem trR_trL (c : UInt8) (l : List UInt8) : trR c (trL c (trR c l)) = trL c (trR c l) := by
  rcases trR_last c l with h | ⟨r, b, h, hb⟩
  · rw [h]; rfl
  · rw [h]
    unfold trL
    rw [List.dropWhile_append]
    split
    · rw [List.dropWhile_cons_of_neg (by simpa using hb)]
      exact trR_snoc (r := []) hb
    · exact trR_snoc hb
theorem keep_R {c : UInt8} {x : List UInt8} (h : trR c x = x) (hx : x ≠ []) : ∃ r b, x = r ++ [b] ∧ b ≠ c := by
  rcases trR_last c x with h' | ⟨r, b, h', hb⟩
  · rw [h] at h'; exact absurd h' hx
  · rw [h] at h'; exact ⟨r, b, h', hb⟩
/-- what is stripped, filled up and stripped again -/
structure Strip (T f : ByteArray) (a : Int) (X PX : ByteArray) : Prop where
  out : stripW T f a = X
  pad : padW X 30 f a = PX
  again : stripW PX f a = X
  last : ¬ a = 2 → trRB (hd1 f) X = X
  head : ¬ a = 1 → trLB (hd1 f) X = X
theorem bytes_list {s : ByteArray} {l : List UInt8} (h : s.data.toList = l) : s = ⟨l.toArray⟩ := by rw [of_list s, h]
theorem cpB_one {s : ByteArray} {c : UInt8} {a : Int} (hv : vtB s = true) (ho : okByte c = true) (ha : inr a 1 3 = true) : cpB s ⟨#[c]⟩ a = true := by
  unfold cpB
  rw [hv, ha, show oneP ⟨#[c]⟩ = okByte c from rfl, ho]
  rfl
theorem vt_of {l : List UInt8} (h1 : l.length ≤ 80) (h2 : prL l = true) : vtB ⟨l.toArray⟩ = true := by
  unfold vtB
  rw [decide_eq_true (show (⟨l.toArray⟩ : ByteArray).size ≤ 80 from h1), show (⟨l.toArray⟩ : ByteArray).data.toList = l from rfl, h2]
  rfl
theorem strip_of {T f : ByteArray} {a : Int} (hok : cpB T f a = true) (hX : ¬ stripW T f a = ⟨#[]⟩) : ∃ X PX c, f = ⟨#[c]⟩ ∧ (1 ≤ a ∧ a ≤ 3) ∧ ¬ X = ⟨#[]⟩ ∧ X.size ≤ 80 ∧ PX.size ≤ 80 ∧ Strip T f a X PX := by
  have hok' := hok
  unfold cpB at hok'
  simp only [Bool.and_eq_true] at hok'
  obtain ⟨hv, hf1, hia⟩ := hok'
  obtain ⟨c, rfl, ho, hc⟩ := oneP_cases hf1
  have ha : 1 ≤ a ∧ a ≤ 3 := by simpa [inr] using hia
  have hv' := hv
  unfold vtB at hv'
  simp only [Bool.and_eq_true, decide_eq_true_eq] at hv'
  obtain ⟨hz, hp⟩ := hv'
  have h3 : a = 1 ∨ a = 2 ∨ a = 3 := by omega
  have hW : ∀ s : ByteArray, cpB s ⟨#[c]⟩ a = true → stripW s ⟨#[c]⟩ a = (if a = 1 then trRB c s else if a = 2 then trLB c s else trLB c (trRB c s)) := fun s h => by
    unfold stripW
    rw [h, hc]
    rfl
  have key : ∃ x : List UInt8, stripW T ⟨#[c]⟩ a = ⟨x.toArray⟩ ∧ x.length ≤ 80 ∧ prL x = true ∧ (¬ a = 2 → trR c x = x) ∧ (¬ a = 1 → trL c x = x) := by
    have l1 := trR_size c T
    have l2 := trL_size c T
    have l3 := trL_size c (trRB c T)
    rw [hW T hok]
    rcases h3 with rfl | rfl | rfl
    · refine ⟨trR c T.data.toList, rfl, ?_, prL_sub (fun x hx => trR_mem hx) hp, fun _ => trR_idem _ _, fun h => absurd rfl h⟩
      have : (trR c T.data.toList).length = (trRB c T).size := rfl
      omega
    · refine ⟨trL c T.data.toList, rfl, ?_, prL_sub (fun x hx => trL_mem hx) hp, fun h => absurd rfl h, fun _ => trL_idem _ _⟩
      have : (trL c T.data.toList).length = (trLB c T).size := rfl
      omega
    · refine ⟨trL c (trR c T.data.toList), rfl, ?_, prL_sub (fun x hx => trR_mem (trL_mem hx)) hp, fun _ => trR_trL _ _, fun _ => trL_idem _ _⟩
      have : (trL c (trR c T.data.toList)).length = (trLB c (trRB c T)).size := rfl
      omega
  obtain ⟨x, e1, hl, hpx, hR, hL⟩ := key
  have hxn : x ≠ [] := by
    intro h
    rw [e1, h] at hX
    exact hX rfl
  have hpl : (padL [] x 30 c a).length ≤ 80 ∧ prL (padL [] x 30 c a) = true := by
    have hr : ∀ k, prL (rep c k) = true := prL_rep ho
    unfold padL
    split
    · simp only [List.length_append, rep_len, List.length_nil, List.nil_append, prL_app, hpx, hr]; exact ⟨by omega, rfl⟩
    · split
      · simp only [List.length_append, rep_len, List.length_nil, List.nil_append, prL_app, hpx, hr]; exact ⟨by omega, rfl⟩
      · split
        · simp only [List.length_append, rep_len, List.length_nil, List.nil_append, prL_app, hpx, hr]; exact ⟨by omega, rfl⟩
        · simp only [List.length_append, rep_len, List.length_nil, List.nil_append, prL_app, hpx, hr]; exact ⟨by omega, rfl⟩
  have e2 : padW ⟨x.toArray⟩ 30 ⟨#[c]⟩ a = ⟨(padL [] x 30 c a).toArray⟩ := by
    unfold padW padOk
    rw [cpB_one (vt_of hl hpx) ho hia, show inr (30 : Int) 0 30 = true by decide, hc]
    rfl
  have e3 : stripW ⟨(padL [] x 30 c a).toArray⟩ ⟨#[c]⟩ a = ⟨x.toArray⟩ := by
    rw [hW _ (cpB_one (vt_of hpl.1 hpl.2) ho hia)]
    rcases h3 with rfl | rfl | rfl
    · rw [if_pos rfl]
      show (⟨(trR c (padL [] x 30 c 1)).toArray⟩ : ByteArray) = _
      unfold padL
      rw [if_pos rfl, List.nil_append, trR_rep, hR (by decide)]
    · rw [if_neg (by decide), if_pos rfl]
      show (⟨(trL c (padL [] x 30 c 2)).toArray⟩ : ByteArray) = _
      unfold padL
      rw [if_neg (by decide), if_neg (by decide), if_neg (by decide), List.nil_append, trL_rep, hL (by decide)]
    · rw [if_neg (by decide), if_neg (by decide)]
      show (⟨(trL c (trR c (padL [] x 30 c 3))).toArray⟩ : ByteArray) = _
      unfold padL
      rw [if_neg (by decide), if_pos rfl, List.nil_append, ← List.append_assoc, trR_rep]
      obtain ⟨r, b, hx, hb⟩ := keep_R (hR (by decide)) hxn
      have : trR c (rep c ((30 - ([] : List UInt8).length - x.length) / 2) ++ x) = rep c ((30 - ([] : List UInt8).length - x.length) / 2) ++ x := by
        generalize rep c ((30 - ([] : List UInt8).length - x.length) / 2) = A
        rw [hx, ← List.append_assoc]
        exact trR_snoc hb
      rw [this, trL_rep, hL (by decide)]
  refine ⟨⟨x.toArray⟩, ⟨(padL [] x 30 c a).toArray⟩, c, rfl, ha, fun h => hX (e1.trans h), hl, hpl.1, e1, e2, e3, fun h => ?_, fun h => ?_⟩
  · rw [hc]
    show (⟨(trR c x).toArray⟩ : ByteArray) = _
    rw [hR h]
  · rw [hc]
    show (⟨(trL c x).toArray⟩ : ByteArray) = _
    rw [hL h]
theorem last_ne {c : UInt8} {X : ByteArray} {k : Nat} (hk : X.size = k + 1) (h : k < X.size) (hR : trRB c X = X) : ¬ X[k] = c := by
  intro e
  have h1 := trR_stepk c hk h e
  rw [hR] at h1
  have h2 := trR_size c (X.extract 0 k)
  rw [h1, ByteArray.size_extract] at h2
  omega
theorem head_ne {c : UInt8} {X : ByteArray} (h : 0 < X.size) (hL : trLB c X = X) : ¬ X[0] = c := by
  intro e
  have h1 := trL_step c h e
  rw [hL] at h1
  have h2 := trL_size c (X.extract 1 X.size)
  rw [h1, ByteArray.size_extract] at h2
  omega
end Go.Proofs.YtcbpocpkfmbaoaaDoor
