/-
  What may be, in numbers: the windows of a view, what becomes of a packet.
-/
import Derived.Test.YtnhlachoimlhhaaGreatDoorSeqA
import Derived.Test.YtnhlachoimlhhaaGreatDoorHdA
namespace Go.Proofs.YtnhlachoimlhhaaGreatDoor
open Go.ChangeShapes Go.WideShapes Go.ChangeAt Go.RowKit
set_option linter.unusedVariables false
set_option linter.unusedSimpArgs false

/-- What an end has sent and got. -/
structure Vw where
  state : Int
  gss : Nat
  gsr : Nat
  gar : Nat
  iss : Nat
  isr : Nat
  mine : Int
  theirs : Int
def Vw.val (v : Vw) : Value := .agg #[.int .i64 v.state, .int .u64 v.gss, .int .u64 v.gsr, .int .u64 v.gar, .int .u64 v.iss, .int .u64 v.isr, .int .i64 v.mine, .int .i64 v.theirs]
def vwCells (v : Vw) : Array Value := #[.int .i64 v.state, .int .u64 v.gss, .int .u64 v.gsr, .int .u64 v.gar, .int .u64 v.iss, .int .u64 v.isr, .int .i64 v.mine, .int .i64 v.theirs]
structure Vw.Ok (v : Vw) : Prop where
  gss : v.gss < 18446744073709551616
  gsr : v.gsr < 18446744073709551616
  gar : v.gar < 18446744073709551616
  iss : v.iss < 18446744073709551616
  isr : v.isr < 18446744073709551616
  mine : -9223372036854775808 ≤ v.mine ∧ v.mine ≤ 9223372036854775807
  theirs : -9223372036854775808 ≤ v.theirs ∧ v.theirs ≤ 9223372036854775807
/-- A window, or the nearer end of what one may be. -/
def winN (n : Int) : Int := if n < 32 then 32 else if 1000 < n then 1000 else n
theorem winN_in (n : Int) : 32 ≤ winN n ∧ winN n ≤ 1000 := by unfold winN; split <;> (try split) <;> omega
/-- Of two numbers the one further on. -/
def maxN (a b : Nat) : Nat := maxStep a b % 281474976710656
theorem maxN_lt (a b : Nat) : maxN a b < 281474976710656 := Nat.mod_lt _ (by decide)
def stepN (s : Nat) (n : Int) : Nat := (stepI s n).toNat
theorem stepN_int (s : Nat) (n : Int) : ((stepN s n : Nat) : Int) = stepI s n := by unfold stepN stepI; omega
theorem stepN_lt (s : Nat) (n : Int) : stepN s n < 281474976710656 := by unfold stepN stepI; omega
def Vw.swl (v : Vw) : Nat := maxN (stepN v.gsr (1 - winN v.theirs / 4)) v.isr
def Vw.swh (v : Vw) : Nat := stepN v.gsr (3 * winN v.theirs / 4)
def Vw.awl (v : Vw) : Nat := maxN (stepN v.gss (1 - winN v.mine)) v.iss
def Vw.awh (v : Vw) : Nat := v.gss % 281474976710656
def Vw.seqB (v : Vw) (h : Hd) : Bool := inB v.swl h.seq v.swh
def Vw.ackB (v : Vw) (h : Hd) : Bool := inB v.awl h.ack v.awh
def Vw.endB (v : Vw) (h : Hd) : Bool := inB (stepN v.gsr 1) h.seq v.swh && inB v.gar h.ack v.awh
/-- Its numbers are long ones. -/
def Vw.long (v : Vw) (h : Hd) : Hd :=
  if h.x = true then h else { h with x := true, seq := (longI (h.seq % 16777216 : Nat) v.gsr).toNat, ack := if hasAckB h.type = true then (longI (h.ack % 16777216 : Nat) v.gss).toNat else h.ack }
def Vw.fitsB (v : Vw) (h : Hd) : Bool :=
  if h.type = 0 then decide (v.state = 3) && v.seqB h
  else if h.type = 2 then v.seqB h
  else if h.type = 3 ∨ h.type = 4 then v.seqB h && v.ackB h
  else if h.type = 5 ∨ h.type = 6 ∨ h.type = 7 then v.endB h
  else if h.type = 8 ∨ h.type = 9 then !decide (diffI h.seq v.swl < 0) && v.ackB h
  else false
def isSyncB (t : Int) : Bool := decide (t = 8) || decide (t = 9)
/-- What is thought of a packet with long numbers: 1 it holds, 2 a Sync asks, 3 it goes nowhere. -/
def Vw.judge (v : Vw) (h : Hd) : Int :=
  if v.state = 0 ∨ v.state = 8 then 3
  else if v.state = 1 then (if h.type = 0 then 1 else 3)
  else if v.state = 2 then (if ((decide (h.type = 1) || decide (h.type = 7)) && v.ackB h) = true then 1 else 3)
  else if v.fitsB h = true then 1
  else if isSyncB h.type = true then 3 else 2
theorem Vw.long_x {v : Vw} {h : Hd} (hx : h.x = true) : v.long h = h := by unfold Vw.long; rw [if_pos hx]
theorem longI_nat (a b : Int) : ((longI a b).toNat : Int) = longI a b := by unfold longI stepI; omega
theorem longI_lt (a b : Int) : (longI a b).toNat < 281474976710656 := by unfold longI stepI; omega

/-! ### Numbers as the laws lay them -/
/-- The lower bound is the first number itself where that is what came last. -/
theorem swl_at (v : Vw) (hg : v.gsr < 281474976710656) (hi : v.isr = v.gsr) : v.swl = v.gsr := by
  have hw := winN_in v.theirs
  unfold Vw.swl maxN maxStep stepN stepI diffI
  rw [hi]
  generalize winN v.theirs = W at *
  split <;> omega
theorem awl_at (v : Vw) (hg : v.gss < 281474976710656) (hi : v.iss = v.gss) : v.awl = v.gss := by
  have hw := winN_in v.mine
  unfold Vw.awl maxN maxStep stepN stepI diffI
  rw [hi]
  generalize winN v.mine = W at *
  split <;> omega
/-- And a whole window further down where what came first lies far back. -/
theorem swl_far (v : Vw) (hg : v.gsr < 281474976710656) (hi : v.isr = stepN v.gsr (-5000)) : v.swl = stepN v.gsr (1 - winN v.theirs / 4) := by
  have hw := winN_in v.theirs
  unfold Vw.swl maxN maxStep
  rw [hi]
  unfold stepN stepI diffI
  generalize winN v.theirs = W at *
  split <;> omega
theorem awl_far (v : Vw) (hg : v.gss < 281474976710656) (hi : v.iss = stepN v.gss (-5000)) : v.awl = stepN v.gss (1 - winN v.mine) := by
  have hw := winN_in v.mine
  unfold Vw.awl maxN maxStep
  rw [hi]
  unfold stepN stepI diffI
  generalize winN v.mine = W at *
  split <;> omega
theorem awh_at (v : Vw) (hg : v.gss < 281474976710656) : v.awh = v.gss := Nat.mod_eq_of_lt hg
/-- What lies so far on from g lies between two that lie so far on. -/
theorem inB_steps (g : Nat) (a b c : Int) (ha : -1099511637776 ≤ a ∧ a ≤ 1099511637776) (hb : -1099511637776 ≤ b ∧ b ≤ 1099511637776) (hc : -1099511637776 ≤ c ∧ c ≤ 1099511637776) (hac : a ≤ c) :
    inB (stepN g a) (stepN g b) (stepN g c) = decide (a ≤ b ∧ b ≤ c) := by
  unfold inB
  rw [stepN_int, stepN_int, stepN_int, decide_eq_decide]
  unfold stepI
  omega
theorem stepN_zero (g : Nat) (h : g < 281474976710656) : stepN g 0 = g := by unfold stepN stepI; omega
theorem less_steps (g : Nat) (a b : Int) (ha : -1099511637776 ≤ a ∧ a ≤ 1099511637776) (hb : -1099511637776 ≤ b ∧ b ≤ 1099511637776) :
    decide (diffI (stepN g a) (stepN g b) < 0) = decide (a < b) := by
  rw [stepN_int, stepN_int, decide_eq_decide]
  unfold diffI stepI
  omega
/-- A number near by is found again by its lowest bits. -/
theorem long_near (g : Nat) (d : Int) (h1 : -100000 < d) (h2 : d < 100000) : (longI (stepN g d % 16777216 % 16777216 : Nat) g).toNat = stepN g d := by
  have e := stepN_int g d
  have e2 : longI ((stepN g d % 16777216 % 16777216 : Nat) : Int) g = stepI g d := by
    unfold longI stepI
    unfold stepI at e
    omega
  rw [e2]; rfl
end Go.Proofs.YtnhlachoimlhhaaGreatDoor
