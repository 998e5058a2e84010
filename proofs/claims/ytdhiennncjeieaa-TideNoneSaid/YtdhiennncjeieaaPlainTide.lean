/- Plain mathematics of a clock that is put right and never goes back. No program is named here. -/
namespace Go.Proofs.Ytdhiennncjeieaa.PTide

def isT (a : Int) : Bool := decide (-1099511627776 ≤ a ∧ a ≤ 1099511627776)
def newN (a : Int) : Int := if 0 ≤ a ∧ a ≤ 1099511627776 then a else 0
/-- What a clock may hold. -/
def Ok (now lag : Int) : Prop := 0 ≤ now ∧ now ≤ 1099511627776 ∧ 0 ≤ lag ∧ lag ≤ 2199023255552
def goes (n : Int) : Bool := decide (0 ≤ n ∧ n ≤ 1048576)
def out (lag n : Int) : Int := min lag (n - n / 2)
def goN (now lag n : Int) : Int := if goes n = true then min (now + n - out lag n) 1099511627776 else now
def goL (lag n : Int) : Int := if goes n = true then lag - out lag n else lag
def fits (lo hi : Int) : Bool := decide (lo ≤ hi) && (isT lo && isT hi)
def riN (now lo hi : Int) : Int := if fits lo hi = true then max now lo else now
def riL (now lag lo hi : Int) : Int := if fits lo hi = true then max 0 (max now lo - hi) else lag

theorem isT_iff (a : Int) : isT a = true ↔ -1099511627776 ≤ a ∧ a ≤ 1099511627776 := decide_eq_true_iff
theorem goes_iff (n : Int) : goes n = true ↔ 0 ≤ n ∧ n ≤ 1048576 := decide_eq_true_iff
theorem fits_iff (lo hi : Int) : fits lo hi = true ↔ lo ≤ hi ∧ (-1099511627776 ≤ lo ∧ lo ≤ 1099511627776) ∧ (-1099511627776 ≤ hi ∧ hi ≤ 1099511627776) := by
  unfold fits; rw [Bool.and_eq_true, Bool.and_eq_true, isT_iff, isT_iff, decide_eq_true_iff]
theorem new_ok (a : Int) : Ok (newN a) 0 := by unfold Ok newN; split <;> omega
theorem new_in {a : Int} (h : 0 ≤ a ∧ a ≤ 1099511627776) : newN a = a := if_pos h
theorem new_out {a : Int} (h : ¬ (0 ≤ a ∧ a ≤ 1099511627776)) : newN a = 0 := if_neg h
theorem go_out {now lag n : Int} (h : goes n = false) : goN now lag n = now ∧ goL lag n = lag := by
  unfold goN goL; rw [h]; exact ⟨rfl, rfl⟩
theorem go_in {now lag n : Int} (h : goes n = true) : goN now lag n = min (now + n - out lag n) 1099511627776 ∧ goL lag n = lag - out lag n := by
  unfold goN goL; rw [h]; exact ⟨rfl, rfl⟩
theorem out_le {lag n : Int} (h : 0 ≤ n) (hl : 0 ≤ lag) : 0 ≤ out lag n ∧ out lag n ≤ lag ∧ out lag n ≤ n := by unfold out; omega
theorem go_ok {now lag : Int} (h : Ok now lag) (n : Int) : Ok (goN now lag n) (goL lag n) ∧ now ≤ goN now lag n := by
  cases hg : goes n
  · obtain ⟨e1, e2⟩ := go_out (now := now) (lag := lag) hg
    rw [e1, e2]; exact ⟨h, Int.le_refl _⟩
  · have := (goes_iff n).1 hg
    obtain ⟨e1, e2⟩ := go_in (now := now) (lag := lag) hg
    rw [e1, e2]
    have := out_le (n := n) this.1 h.2.2.1
    unfold Ok at *; omega
theorem ri_ok {now lag : Int} (h : Ok now lag) (lo hi : Int) : Ok (riN now lo hi) (riL now lag lo hi) ∧ now ≤ riN now lo hi := by
  unfold riN riL
  cases hf : fits lo hi
  · exact ⟨h, Int.le_refl _⟩
  · have := (fits_iff lo hi).1 hf
    rw [if_pos rfl, if_pos rfl]
    unfold Ok at *; omega
end Go.Proofs.Ytdhiennncjeieaa.PTide
