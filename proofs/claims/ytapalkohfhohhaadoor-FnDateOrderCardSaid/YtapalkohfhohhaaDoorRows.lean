/-
  NARROWER THAN 'FOR EVERY INPUT', by the rows' own cells (each row's printed sentence says how): FnDateRoundTrip: laid · FnDateCanonical: laid · FnDateOrder: laid · FnBondRoundTrip: laid · FnBondCanonical: laid · FnTopText: laid · FnExactFormatDate: laid · FnExactParseDate: laid · FnExactFormatBond: laid · FnExactParseBond: laid.
  DERIVED. THE GIVEN ROWS OF THIS SEAT. 10 by the template 'for every input the law returns true; each argument reads behind the call as it read before'; 0 by the template 'total and deterministic' (their statements: YtapalkohfhohhaaDoorTotals.lean).
  GIVEN WITH THE SEED: the statements are not yours to turn. If you find one false, say at which input.
  Laid BY PROGRAM, IN A SANDBOX (cutbox-rows.mjs): the forced cells as the released guide's own fill.sh prints them over the translation 8e4625608848eec5… (all of the seat's roots in one cut). By AI agents, Wed Nov 11 2026. No macro, syntax, notation, axiom, sorry.
-/
import Derived.Test.YtapalkohfhohhaaDoorChecked
import GoSem.Claim
import GoSem.ClaimJoined
import GoSem.ClaimMapViews
import Derived.JoinedTies
import Derived.KernelRfl
namespace Go.Proofs.YtapalkohfhohhaaDoor
/- THE CELL 'sum', in the pinned program and in every row, IS THE sha256 OF THE DUMP (.gsa) THAT YtapalkohfhohhaaDoorProg.lean LOADS. Nothing in Lean hashes anything: it is a label: what it is worth is what the hold of that sum in a sandbox is worth. -/
noncomputable def Tryd.pinned : Pinned := { name := "ytapalkohfhohhaadoor", sum := "8e4625608848eec590b5041d3a21a644ae58a47637511e2850955dffd24e0411", checked := Tryd.checked }
namespace Rows
def none {H : Type} : Left H := { results := [], args := [] }

/- WHAT THE LISTED PACKAGE-LEVEL VARIABLES READ AS WHEN THE CALL BEGINS. Each datum BY PROGRAM (the guide's laid-datum.mjs) off the statement by which the dump's own 'gosem.cut.vars' lays the variable. In a bare row this is a premise. The card (YtapalkohfhohhaaDoorCards.lean) ties it to the program's text. -/
def laid_math_bits_deBruijn32tab {H : Type} : DataW H := .agg [.lit (.int .u8 0), .lit (.int .u8 1), .lit (.int .u8 28), .lit (.int .u8 2), .lit (.int .u8 29), .lit (.int .u8 14), .lit (.int .u8 24), .lit (.int .u8 3), .lit (.int .u8 30), .lit (.int .u8 22), .lit (.int .u8 20), .lit (.int .u8 15), .lit (.int .u8 25), .lit (.int .u8 17), .lit (.int .u8 4), .lit (.int .u8 8), .lit (.int .u8 31), .lit (.int .u8 27), .lit (.int .u8 13), .lit (.int .u8 23), .lit (.int .u8 21), .lit (.int .u8 19), .lit (.int .u8 16), .lit (.int .u8 7), .lit (.int .u8 26), .lit (.int .u8 12), .lit (.int .u8 18), .lit (.int .u8 6), .lit (.int .u8 11), .lit (.int .u8 5), .lit (.int .u8 10), .lit (.int .u8 9)]
def laid_math_bits_deBruijn64tab {H : Type} : DataW H := .agg [.lit (.int .u8 0), .lit (.int .u8 1), .lit (.int .u8 56), .lit (.int .u8 2), .lit (.int .u8 57), .lit (.int .u8 49), .lit (.int .u8 28), .lit (.int .u8 3), .lit (.int .u8 61), .lit (.int .u8 58), .lit (.int .u8 42), .lit (.int .u8 50), .lit (.int .u8 38), .lit (.int .u8 29), .lit (.int .u8 17), .lit (.int .u8 4), .lit (.int .u8 62), .lit (.int .u8 47), .lit (.int .u8 59), .lit (.int .u8 36), .lit (.int .u8 45), .lit (.int .u8 43), .lit (.int .u8 51), .lit (.int .u8 22), .lit (.int .u8 53), .lit (.int .u8 39), .lit (.int .u8 33), .lit (.int .u8 30), .lit (.int .u8 24), .lit (.int .u8 18), .lit (.int .u8 12), .lit (.int .u8 5), .lit (.int .u8 63), .lit (.int .u8 55), .lit (.int .u8 48), .lit (.int .u8 27), .lit (.int .u8 60), .lit (.int .u8 41), .lit (.int .u8 37), .lit (.int .u8 16), .lit (.int .u8 46), .lit (.int .u8 35), .lit (.int .u8 44), .lit (.int .u8 21), .lit (.int .u8 52), .lit (.int .u8 32), .lit (.int .u8 23), .lit (.int .u8 11), .lit (.int .u8 54), .lit (.int .u8 26), .lit (.int .u8 40), .lit (.int .u8 15), .lit (.int .u8 34), .lit (.int .u8 20), .lit (.int .u8 31), .lit (.int .u8 10), .lit (.int .u8 25), .lit (.int .u8 14), .lit (.int .u8 19), .lit (.int .u8 9), .lit (.int .u8 13), .lit (.int .u8 8), .lit (.int .u8 7), .lit (.int .u8 6)]
def laid_internal_strconv_uint64pow10 {H : Type} : DataW H := .agg [.lit (.int .u64 1), .lit (.int .u64 10), .lit (.int .u64 100), .lit (.int .u64 1000), .lit (.int .u64 10000), .lit (.int .u64 100000), .lit (.int .u64 1000000), .lit (.int .u64 10000000), .lit (.int .u64 100000000), .lit (.int .u64 1000000000), .lit (.int .u64 10000000000), .lit (.int .u64 100000000000), .lit (.int .u64 1000000000000), .lit (.int .u64 10000000000000), .lit (.int .u64 100000000000000), .lit (.int .u64 1000000000000000), .lit (.int .u64 10000000000000000), .lit (.int .u64 100000000000000000), .lit (.int .u64 1000000000000000000), .lit (.int .u64 10000000000000000000)]
def laid_loop_example_bonddesk_impl_monthStart {H : Type} : DataW H := .agg [.lit (.int .i64 0), .lit (.int .i64 31), .lit (.int .i64 59), .lit (.int .i64 90), .lit (.int .i64 120), .lit (.int .i64 151), .lit (.int .i64 181), .lit (.int .i64 212), .lit (.int .i64 243), .lit (.int .i64 273), .lit (.int .i64 304), .lit (.int .i64 334), .lit (.int .i64 365)]

/-- 'laws.FnDateRoundTrip': WHATEVER THE INPUT: true; the input reads as it did. -/
def fnDateRoundTripSpec : ChangeSpec := { name := "fnDateRoundTrip", vars := ["loop.example/bonddesk/impl.monthStart"], fn := fun _ => fun
  | [d, g1] => { results := [.lit (.bool true)], args := [d], vars := [g1] }
  | _ => none }
def fnDateRoundTripRow : OpenClaim := { program := "ytapalkohfhohhaadoor", sum := "8e4625608848eec590b5041d3a21a644ae58a47637511e2850955dffd24e0411", func := "loop.example/bonddesk/laws.FnDateRoundTrip", spec := "fnDateRoundTrip", inPlace := ["internal/abi.NoEscape", "internal/bytealg.MakeNoZero"], unfollowed := true, recurses := true, named := ["loop.example/bonddesk/impl.monthStart", "internal/strconv.uint64pow10", "math/bits.deBruijn32tab", "math/bits.deBruijn64tab"], apart := false, laid := [("math/bits.deBruijn32tab", laid_math_bits_deBruijn32tab), ("math/bits.deBruijn64tab", laid_math_bits_deBruijn64tab), ("internal/strconv.uint64pow10", laid_internal_strconv_uint64pow10), ("loop.example/bonddesk/impl.monthStart", laid_loop_example_bonddesk_impl_monthStart)] }
def FnDateRoundTripSaid : Prop := fnDateRoundTripRow.holds Tryd.pinned (OpenSpec.ofChange fnDateRoundTripSpec)

/-- ITS FALSE NEIGHBOUR: 'it returns false'. Refute it at one input. -/
def fnDateRoundTripWrong : ChangeSpec := { name := "fnDateRoundTrip", vars := ["loop.example/bonddesk/impl.monthStart"], fn := fun _ => fun
  | [d, g1] => { results := [.lit (.bool false)], args := [d], vars := [g1] }
  | _ => none }
def FnDateRoundTripWrongFalsely : Prop := fnDateRoundTripRow.holds Tryd.pinned (OpenSpec.ofChange fnDateRoundTripWrong)

/-- 'laws.FnDateCanonical': WHATEVER THE INPUT: true; the input reads as it did. -/
def fnDateCanonicalSpec : ChangeSpec := { name := "fnDateCanonical", vars := ["loop.example/bonddesk/impl.monthStart"], fn := fun _ => fun
  | [d, g1] => { results := [.lit (.bool true)], args := [d], vars := [g1] }
  | _ => none }
def fnDateCanonicalRow : OpenClaim := { program := "ytapalkohfhohhaadoor", sum := "8e4625608848eec590b5041d3a21a644ae58a47637511e2850955dffd24e0411", func := "loop.example/bonddesk/laws.FnDateCanonical", spec := "fnDateCanonical", inPlace := ["internal/abi.NoEscape", "internal/bytealg.MakeNoZero"], unfollowed := true, recurses := true, named := ["loop.example/bonddesk/impl.monthStart", "internal/strconv.uint64pow10", "math/bits.deBruijn32tab", "math/bits.deBruijn64tab"], apart := false, laid := [("math/bits.deBruijn32tab", laid_math_bits_deBruijn32tab), ("math/bits.deBruijn64tab", laid_math_bits_deBruijn64tab), ("internal/strconv.uint64pow10", laid_internal_strconv_uint64pow10), ("loop.example/bonddesk/impl.monthStart", laid_loop_example_bonddesk_impl_monthStart)] }
def FnDateCanonicalSaid : Prop := fnDateCanonicalRow.holds Tryd.pinned (OpenSpec.ofChange fnDateCanonicalSpec)

/-- ITS FALSE NEIGHBOUR: 'it returns false'. Refute it at one input. -/
def fnDateCanonicalWrong : ChangeSpec := { name := "fnDateCanonical", vars := ["loop.example/bonddesk/impl.monthStart"], fn := fun _ => fun
  | [d, g1] => { results := [.lit (.bool false)], args := [d], vars := [g1] }
  | _ => none }
def FnDateCanonicalWrongFalsely : Prop := fnDateCanonicalRow.holds Tryd.pinned (OpenSpec.ofChange fnDateCanonicalWrong)

/-- 'laws.FnDateOrder': WHATEVER THE INPUT: true; the input reads as it did. -/
def fnDateOrderSpec : ChangeSpec := { name := "fnDateOrder", vars := ["loop.example/bonddesk/impl.monthStart"], fn := fun _ => fun
  | [d, g1] => { results := [.lit (.bool true)], args := [d], vars := [g1] }
  | _ => none }
def fnDateOrderRow : OpenClaim := { program := "ytapalkohfhohhaadoor", sum := "8e4625608848eec590b5041d3a21a644ae58a47637511e2850955dffd24e0411", func := "loop.example/bonddesk/laws.FnDateOrder", spec := "fnDateOrder", inPlace := ["internal/abi.NoEscape", "internal/bytealg.MakeNoZero"], recurses := true, named := ["loop.example/bonddesk/impl.monthStart", "internal/strconv.uint64pow10", "math/bits.deBruijn32tab", "math/bits.deBruijn64tab"], apart := false, laid := [("math/bits.deBruijn32tab", laid_math_bits_deBruijn32tab), ("math/bits.deBruijn64tab", laid_math_bits_deBruijn64tab), ("internal/strconv.uint64pow10", laid_internal_strconv_uint64pow10), ("loop.example/bonddesk/impl.monthStart", laid_loop_example_bonddesk_impl_monthStart)] }
def FnDateOrderSaid : Prop := fnDateOrderRow.holds Tryd.pinned (OpenSpec.ofChange fnDateOrderSpec)

/-- ITS FALSE NEIGHBOUR: 'it returns false'. Refute it at one input. -/
def fnDateOrderWrong : ChangeSpec := { name := "fnDateOrder", vars := ["loop.example/bonddesk/impl.monthStart"], fn := fun _ => fun
  | [d, g1] => { results := [.lit (.bool false)], args := [d], vars := [g1] }
  | _ => none }
def FnDateOrderWrongFalsely : Prop := fnDateOrderRow.holds Tryd.pinned (OpenSpec.ofChange fnDateOrderWrong)

/-- 'laws.FnBondRoundTrip': WHATEVER THE INPUT: true; the input reads as it did. -/
def fnBondRoundTripSpec : ChangeSpec := { name := "fnBondRoundTrip", vars := ["loop.example/bonddesk/impl.monthStart"], fn := fun _ => fun
  | [d, g1] => { results := [.lit (.bool true)], args := [d], vars := [g1] }
  | _ => none }
def fnBondRoundTripRow : OpenClaim := { program := "ytapalkohfhohhaadoor", sum := "8e4625608848eec590b5041d3a21a644ae58a47637511e2850955dffd24e0411", func := "loop.example/bonddesk/laws.FnBondRoundTrip", spec := "fnBondRoundTrip", inPlace := ["internal/abi.NoEscape", "internal/bytealg.MakeNoZero"], unfollowed := true, recurses := true, named := ["loop.example/bonddesk/impl.monthStart", "internal/strconv.uint64pow10", "math/bits.deBruijn32tab", "math/bits.deBruijn64tab"], apart := false, laid := [("math/bits.deBruijn32tab", laid_math_bits_deBruijn32tab), ("math/bits.deBruijn64tab", laid_math_bits_deBruijn64tab), ("internal/strconv.uint64pow10", laid_internal_strconv_uint64pow10), ("loop.example/bonddesk/impl.monthStart", laid_loop_example_bonddesk_impl_monthStart)] }
def FnBondRoundTripSaid : Prop := fnBondRoundTripRow.holds Tryd.pinned (OpenSpec.ofChange fnBondRoundTripSpec)

/-- ITS FALSE NEIGHBOUR: 'it returns false'. Refute it at one input. -/
def fnBondRoundTripWrong : ChangeSpec := { name := "fnBondRoundTrip", vars := ["loop.example/bonddesk/impl.monthStart"], fn := fun _ => fun
  | [d, g1] => { results := [.lit (.bool false)], args := [d], vars := [g1] }
  | _ => none }
def FnBondRoundTripWrongFalsely : Prop := fnBondRoundTripRow.holds Tryd.pinned (OpenSpec.ofChange fnBondRoundTripWrong)

/-- 'laws.FnBondCanonical': WHATEVER THE INPUT: true; the input reads as it did. -/
def fnBondCanonicalSpec : ChangeSpec := { name := "fnBondCanonical", vars := ["loop.example/bonddesk/impl.monthStart"], fn := fun _ => fun
  | [d, g1] => { results := [.lit (.bool true)], args := [d], vars := [g1] }
  | _ => none }
def fnBondCanonicalRow : OpenClaim := { program := "ytapalkohfhohhaadoor", sum := "8e4625608848eec590b5041d3a21a644ae58a47637511e2850955dffd24e0411", func := "loop.example/bonddesk/laws.FnBondCanonical", spec := "fnBondCanonical", inPlace := ["internal/abi.NoEscape", "internal/bytealg.MakeNoZero"], unfollowed := true, recurses := true, named := ["loop.example/bonddesk/impl.monthStart", "internal/strconv.uint64pow10", "math/bits.deBruijn32tab", "math/bits.deBruijn64tab"], apart := false, laid := [("math/bits.deBruijn32tab", laid_math_bits_deBruijn32tab), ("math/bits.deBruijn64tab", laid_math_bits_deBruijn64tab), ("internal/strconv.uint64pow10", laid_internal_strconv_uint64pow10), ("loop.example/bonddesk/impl.monthStart", laid_loop_example_bonddesk_impl_monthStart)] }
def FnBondCanonicalSaid : Prop := fnBondCanonicalRow.holds Tryd.pinned (OpenSpec.ofChange fnBondCanonicalSpec)

/-- ITS FALSE NEIGHBOUR: 'it returns false'. Refute it at one input. -/
def fnBondCanonicalWrong : ChangeSpec := { name := "fnBondCanonical", vars := ["loop.example/bonddesk/impl.monthStart"], fn := fun _ => fun
  | [d, g1] => { results := [.lit (.bool false)], args := [d], vars := [g1] }
  | _ => none }
def FnBondCanonicalWrongFalsely : Prop := fnBondCanonicalRow.holds Tryd.pinned (OpenSpec.ofChange fnBondCanonicalWrong)

/-- 'laws.FnTopText': WHATEVER THE INPUT: true; the input reads as it did. -/
def fnTopTextSpec : ChangeSpec := { name := "fnTopText", vars := ["loop.example/bonddesk/impl.monthStart"], fn := fun _ => fun
  | [d, g1] => { results := [.lit (.bool true)], args := [d], vars := [g1] }
  | _ => none }
def fnTopTextRow : OpenClaim := { program := "ytapalkohfhohhaadoor", sum := "8e4625608848eec590b5041d3a21a644ae58a47637511e2850955dffd24e0411", func := "loop.example/bonddesk/laws.FnTopText", spec := "fnTopText", inPlace := ["internal/abi.NoEscape", "internal/bytealg.MakeNoZero"], unfollowed := true, recurses := true, named := ["loop.example/bonddesk/impl.monthStart", "internal/strconv.uint64pow10", "math/bits.deBruijn32tab", "math/bits.deBruijn64tab"], apart := false, laid := [("math/bits.deBruijn32tab", laid_math_bits_deBruijn32tab), ("math/bits.deBruijn64tab", laid_math_bits_deBruijn64tab), ("internal/strconv.uint64pow10", laid_internal_strconv_uint64pow10), ("loop.example/bonddesk/impl.monthStart", laid_loop_example_bonddesk_impl_monthStart)] }
def FnTopTextSaid : Prop := fnTopTextRow.holds Tryd.pinned (OpenSpec.ofChange fnTopTextSpec)

/-- ITS FALSE NEIGHBOUR: 'it returns false'. Refute it at one input. -/
def fnTopTextWrong : ChangeSpec := { name := "fnTopText", vars := ["loop.example/bonddesk/impl.monthStart"], fn := fun _ => fun
  | [d, g1] => { results := [.lit (.bool false)], args := [d], vars := [g1] }
  | _ => none }
def FnTopTextWrongFalsely : Prop := fnTopTextRow.holds Tryd.pinned (OpenSpec.ofChange fnTopTextWrong)

/-- 'laws.FnExactFormatDate': WHATEVER THE INPUT: true; the input reads as it did. -/
def fnExactFormatDateSpec : ChangeSpec := { name := "fnExactFormatDate", vars := ["loop.example/bonddesk/impl.monthStart"], fn := fun _ => fun
  | [d, g1] => { results := [.lit (.bool true)], args := [d], vars := [g1] }
  | _ => none }
def fnExactFormatDateRow : OpenClaim := { program := "ytapalkohfhohhaadoor", sum := "8e4625608848eec590b5041d3a21a644ae58a47637511e2850955dffd24e0411", func := "loop.example/bonddesk/laws.FnExactFormatDate", spec := "fnExactFormatDate", inPlace := ["internal/abi.NoEscape", "internal/bytealg.MakeNoZero"], recurses := true, named := ["loop.example/bonddesk/impl.monthStart", "internal/strconv.uint64pow10", "math/bits.deBruijn32tab", "math/bits.deBruijn64tab"], apart := false, laid := [("math/bits.deBruijn32tab", laid_math_bits_deBruijn32tab), ("math/bits.deBruijn64tab", laid_math_bits_deBruijn64tab), ("internal/strconv.uint64pow10", laid_internal_strconv_uint64pow10), ("loop.example/bonddesk/impl.monthStart", laid_loop_example_bonddesk_impl_monthStart)] }
def FnExactFormatDateSaid : Prop := fnExactFormatDateRow.holds Tryd.pinned (OpenSpec.ofChange fnExactFormatDateSpec)

/-- ITS FALSE NEIGHBOUR: 'it returns false'. Refute it at one input. -/
def fnExactFormatDateWrong : ChangeSpec := { name := "fnExactFormatDate", vars := ["loop.example/bonddesk/impl.monthStart"], fn := fun _ => fun
  | [d, g1] => { results := [.lit (.bool false)], args := [d], vars := [g1] }
  | _ => none }
def FnExactFormatDateWrongFalsely : Prop := fnExactFormatDateRow.holds Tryd.pinned (OpenSpec.ofChange fnExactFormatDateWrong)

/-- 'laws.FnExactParseDate': WHATEVER THE INPUT: true; the input reads as it did. -/
def fnExactParseDateSpec : ChangeSpec := { name := "fnExactParseDate", vars := ["loop.example/bonddesk/impl.monthStart"], fn := fun _ => fun
  | [d, g1] => { results := [.lit (.bool true)], args := [d], vars := [g1] }
  | _ => none }
def fnExactParseDateRow : OpenClaim := { program := "ytapalkohfhohhaadoor", sum := "8e4625608848eec590b5041d3a21a644ae58a47637511e2850955dffd24e0411", func := "loop.example/bonddesk/laws.FnExactParseDate", spec := "fnExactParseDate", inPlace := ["internal/abi.NoEscape", "internal/bytealg.MakeNoZero"], unfollowed := true, recurses := true, named := ["loop.example/bonddesk/impl.monthStart", "internal/strconv.uint64pow10", "math/bits.deBruijn32tab", "math/bits.deBruijn64tab"], apart := false, laid := [("math/bits.deBruijn32tab", laid_math_bits_deBruijn32tab), ("math/bits.deBruijn64tab", laid_math_bits_deBruijn64tab), ("internal/strconv.uint64pow10", laid_internal_strconv_uint64pow10), ("loop.example/bonddesk/impl.monthStart", laid_loop_example_bonddesk_impl_monthStart)] }
def FnExactParseDateSaid : Prop := fnExactParseDateRow.holds Tryd.pinned (OpenSpec.ofChange fnExactParseDateSpec)

/-- ITS FALSE NEIGHBOUR: 'it returns false'. Refute it at one input. -/
def fnExactParseDateWrong : ChangeSpec := { name := "fnExactParseDate", vars := ["loop.example/bonddesk/impl.monthStart"], fn := fun _ => fun
  | [d, g1] => { results := [.lit (.bool false)], args := [d], vars := [g1] }
  | _ => none }
def FnExactParseDateWrongFalsely : Prop := fnExactParseDateRow.holds Tryd.pinned (OpenSpec.ofChange fnExactParseDateWrong)

/-- 'laws.FnExactFormatBond': WHATEVER THE INPUT: true; the input reads as it did. -/
def fnExactFormatBondSpec : ChangeSpec := { name := "fnExactFormatBond", vars := ["loop.example/bonddesk/impl.monthStart"], fn := fun _ => fun
  | [d, g1] => { results := [.lit (.bool true)], args := [d], vars := [g1] }
  | _ => none }
def fnExactFormatBondRow : OpenClaim := { program := "ytapalkohfhohhaadoor", sum := "8e4625608848eec590b5041d3a21a644ae58a47637511e2850955dffd24e0411", func := "loop.example/bonddesk/laws.FnExactFormatBond", spec := "fnExactFormatBond", inPlace := ["internal/abi.NoEscape", "internal/bytealg.MakeNoZero"], unfollowed := true, recurses := true, named := ["loop.example/bonddesk/impl.monthStart", "internal/strconv.uint64pow10", "math/bits.deBruijn32tab", "math/bits.deBruijn64tab"], apart := false, laid := [("math/bits.deBruijn32tab", laid_math_bits_deBruijn32tab), ("math/bits.deBruijn64tab", laid_math_bits_deBruijn64tab), ("internal/strconv.uint64pow10", laid_internal_strconv_uint64pow10), ("loop.example/bonddesk/impl.monthStart", laid_loop_example_bonddesk_impl_monthStart)] }
def FnExactFormatBondSaid : Prop := fnExactFormatBondRow.holds Tryd.pinned (OpenSpec.ofChange fnExactFormatBondSpec)

/-- ITS FALSE NEIGHBOUR: 'it returns false'. Refute it at one input. -/
def fnExactFormatBondWrong : ChangeSpec := { name := "fnExactFormatBond", vars := ["loop.example/bonddesk/impl.monthStart"], fn := fun _ => fun
  | [d, g1] => { results := [.lit (.bool false)], args := [d], vars := [g1] }
  | _ => none }
def FnExactFormatBondWrongFalsely : Prop := fnExactFormatBondRow.holds Tryd.pinned (OpenSpec.ofChange fnExactFormatBondWrong)

/-- 'laws.FnExactParseBond': WHATEVER THE INPUT: true; the input reads as it did. -/
def fnExactParseBondSpec : ChangeSpec := { name := "fnExactParseBond", vars := ["loop.example/bonddesk/impl.monthStart"], fn := fun _ => fun
  | [d, g1] => { results := [.lit (.bool true)], args := [d], vars := [g1] }
  | _ => none }
def fnExactParseBondRow : OpenClaim := { program := "ytapalkohfhohhaadoor", sum := "8e4625608848eec590b5041d3a21a644ae58a47637511e2850955dffd24e0411", func := "loop.example/bonddesk/laws.FnExactParseBond", spec := "fnExactParseBond", inPlace := ["internal/abi.NoEscape", "internal/bytealg.MakeNoZero"], unfollowed := true, recurses := true, named := ["loop.example/bonddesk/impl.monthStart", "internal/strconv.uint64pow10", "math/bits.deBruijn32tab", "math/bits.deBruijn64tab"], apart := false, laid := [("math/bits.deBruijn32tab", laid_math_bits_deBruijn32tab), ("math/bits.deBruijn64tab", laid_math_bits_deBruijn64tab), ("internal/strconv.uint64pow10", laid_internal_strconv_uint64pow10), ("loop.example/bonddesk/impl.monthStart", laid_loop_example_bonddesk_impl_monthStart)] }
def FnExactParseBondSaid : Prop := fnExactParseBondRow.holds Tryd.pinned (OpenSpec.ofChange fnExactParseBondSpec)

/-- ITS FALSE NEIGHBOUR: 'it returns false'. Refute it at one input. -/
def fnExactParseBondWrong : ChangeSpec := { name := "fnExactParseBond", vars := ["loop.example/bonddesk/impl.monthStart"], fn := fun _ => fun
  | [d, g1] => { results := [.lit (.bool false)], args := [d], vars := [g1] }
  | _ => none }
def FnExactParseBondWrongFalsely : Prop := fnExactParseBondRow.holds Tryd.pinned (OpenSpec.ofChange fnExactParseBondWrong)

/- THE SECOND FORM. 'bulk': how many values and letters a reading holds, each counted each time it is reached (what is shared counts as often as it is met; a slice's spare places count too). A statement '..UptoSaid' is the law's where the arguments, and the package variables that the reading takes, are together of bulk at most 1048576: NARROWER than '..Said'. Prove '..Said' where nothing that the law and all that it calls make is longer than what came in: it says more and counts as full. Else prove '..UptoSaid'. A law counts once. -/
mutual
def uptoBulk {H : Type} : DataW H → Nat
  | .lit (.string bytes) => bytes.length + 1
  | .lit _ => 1
  | .nil => 1
  | .ptr d => uptoBulk d + 1
  | .slice elems spare => uptoBulkAll elems + uptoBulkAll spare + 1
  | .agg parts => uptoBulkAll parts + 1
  | .iface _ d => uptoBulk d + 1
  | .map entries => uptoBulkEntries entries + 1
  | .held _ => 1
def uptoBulkAll {H : Type} : List (DataW H) → Nat
  | [] => 0
  | d :: r => uptoBulk d + uptoBulkAll r
def uptoBulkEntries {H : Type} : List (Lit × DataW H) → Nat
  | [] => 0
  | x :: r => uptoBulkEntry x + uptoBulkEntries r
def uptoBulkEntry {H : Type} : Lit × DataW H → Nat
  | (.string bytes, d) => bytes.length + uptoBulk d + 1
  | (_, d) => uptoBulk d + 1
 end
def uptoSmall : (H : Type) → List (DataW H) → Bool := fun _ ds => decide (uptoBulkAll ds ≤ 1048576)
def OpenSpec.upto (s : _root_.Go.ChangeSpec) : _root_.Go.OpenSpec := { _root_.Go.OpenSpec.ofChange s with cond := some uptoSmall }

/-- 'laws.FnDateRoundTrip', WHERE WHAT IT READS IS OF BULK AT MOST 1048576: true; the input reads as it did. -/
def fnDateRoundTripUptoRow : OpenClaim := { program := "ytapalkohfhohhaadoor", sum := "8e4625608848eec590b5041d3a21a644ae58a47637511e2850955dffd24e0411", func := "loop.example/bonddesk/laws.FnDateRoundTrip", spec := "fnDateRoundTrip", inPlace := ["internal/abi.NoEscape", "internal/bytealg.MakeNoZero"], unfollowed := true, recurses := true, named := ["loop.example/bonddesk/impl.monthStart", "internal/strconv.uint64pow10", "math/bits.deBruijn32tab", "math/bits.deBruijn64tab"], apart := false, laid := [("math/bits.deBruijn32tab", laid_math_bits_deBruijn32tab), ("math/bits.deBruijn64tab", laid_math_bits_deBruijn64tab), ("internal/strconv.uint64pow10", laid_internal_strconv_uint64pow10), ("loop.example/bonddesk/impl.monthStart", laid_loop_example_bonddesk_impl_monthStart)], narrowed := true }
def FnDateRoundTripUptoSaid : Prop := fnDateRoundTripUptoRow.holds Tryd.pinned (OpenSpec.upto fnDateRoundTripSpec)

/-- 'laws.FnDateCanonical', WHERE WHAT IT READS IS OF BULK AT MOST 1048576: true; the input reads as it did. -/
def fnDateCanonicalUptoRow : OpenClaim := { program := "ytapalkohfhohhaadoor", sum := "8e4625608848eec590b5041d3a21a644ae58a47637511e2850955dffd24e0411", func := "loop.example/bonddesk/laws.FnDateCanonical", spec := "fnDateCanonical", inPlace := ["internal/abi.NoEscape", "internal/bytealg.MakeNoZero"], unfollowed := true, recurses := true, named := ["loop.example/bonddesk/impl.monthStart", "internal/strconv.uint64pow10", "math/bits.deBruijn32tab", "math/bits.deBruijn64tab"], apart := false, laid := [("math/bits.deBruijn32tab", laid_math_bits_deBruijn32tab), ("math/bits.deBruijn64tab", laid_math_bits_deBruijn64tab), ("internal/strconv.uint64pow10", laid_internal_strconv_uint64pow10), ("loop.example/bonddesk/impl.monthStart", laid_loop_example_bonddesk_impl_monthStart)], narrowed := true }
def FnDateCanonicalUptoSaid : Prop := fnDateCanonicalUptoRow.holds Tryd.pinned (OpenSpec.upto fnDateCanonicalSpec)

/-- 'laws.FnDateOrder', WHERE WHAT IT READS IS OF BULK AT MOST 1048576: true; the input reads as it did. -/
def fnDateOrderUptoRow : OpenClaim := { program := "ytapalkohfhohhaadoor", sum := "8e4625608848eec590b5041d3a21a644ae58a47637511e2850955dffd24e0411", func := "loop.example/bonddesk/laws.FnDateOrder", spec := "fnDateOrder", inPlace := ["internal/abi.NoEscape", "internal/bytealg.MakeNoZero"], recurses := true, named := ["loop.example/bonddesk/impl.monthStart", "internal/strconv.uint64pow10", "math/bits.deBruijn32tab", "math/bits.deBruijn64tab"], apart := false, laid := [("math/bits.deBruijn32tab", laid_math_bits_deBruijn32tab), ("math/bits.deBruijn64tab", laid_math_bits_deBruijn64tab), ("internal/strconv.uint64pow10", laid_internal_strconv_uint64pow10), ("loop.example/bonddesk/impl.monthStart", laid_loop_example_bonddesk_impl_monthStart)], narrowed := true }
def FnDateOrderUptoSaid : Prop := fnDateOrderUptoRow.holds Tryd.pinned (OpenSpec.upto fnDateOrderSpec)

/-- 'laws.FnBondRoundTrip', WHERE WHAT IT READS IS OF BULK AT MOST 1048576: true; the input reads as it did. -/
def fnBondRoundTripUptoRow : OpenClaim := { program := "ytapalkohfhohhaadoor", sum := "8e4625608848eec590b5041d3a21a644ae58a47637511e2850955dffd24e0411", func := "loop.example/bonddesk/laws.FnBondRoundTrip", spec := "fnBondRoundTrip", inPlace := ["internal/abi.NoEscape", "internal/bytealg.MakeNoZero"], unfollowed := true, recurses := true, named := ["loop.example/bonddesk/impl.monthStart", "internal/strconv.uint64pow10", "math/bits.deBruijn32tab", "math/bits.deBruijn64tab"], apart := false, laid := [("math/bits.deBruijn32tab", laid_math_bits_deBruijn32tab), ("math/bits.deBruijn64tab", laid_math_bits_deBruijn64tab), ("internal/strconv.uint64pow10", laid_internal_strconv_uint64pow10), ("loop.example/bonddesk/impl.monthStart", laid_loop_example_bonddesk_impl_monthStart)], narrowed := true }
def FnBondRoundTripUptoSaid : Prop := fnBondRoundTripUptoRow.holds Tryd.pinned (OpenSpec.upto fnBondRoundTripSpec)

/-- 'laws.FnBondCanonical', WHERE WHAT IT READS IS OF BULK AT MOST 1048576: true; the input reads as it did. -/
def fnBondCanonicalUptoRow : OpenClaim := { program := "ytapalkohfhohhaadoor", sum := "8e4625608848eec590b5041d3a21a644ae58a47637511e2850955dffd24e0411", func := "loop.example/bonddesk/laws.FnBondCanonical", spec := "fnBondCanonical", inPlace := ["internal/abi.NoEscape", "internal/bytealg.MakeNoZero"], unfollowed := true, recurses := true, named := ["loop.example/bonddesk/impl.monthStart", "internal/strconv.uint64pow10", "math/bits.deBruijn32tab", "math/bits.deBruijn64tab"], apart := false, laid := [("math/bits.deBruijn32tab", laid_math_bits_deBruijn32tab), ("math/bits.deBruijn64tab", laid_math_bits_deBruijn64tab), ("internal/strconv.uint64pow10", laid_internal_strconv_uint64pow10), ("loop.example/bonddesk/impl.monthStart", laid_loop_example_bonddesk_impl_monthStart)], narrowed := true }
def FnBondCanonicalUptoSaid : Prop := fnBondCanonicalUptoRow.holds Tryd.pinned (OpenSpec.upto fnBondCanonicalSpec)

/-- 'laws.FnTopText', WHERE WHAT IT READS IS OF BULK AT MOST 1048576: true; the input reads as it did. -/
def fnTopTextUptoRow : OpenClaim := { program := "ytapalkohfhohhaadoor", sum := "8e4625608848eec590b5041d3a21a644ae58a47637511e2850955dffd24e0411", func := "loop.example/bonddesk/laws.FnTopText", spec := "fnTopText", inPlace := ["internal/abi.NoEscape", "internal/bytealg.MakeNoZero"], unfollowed := true, recurses := true, named := ["loop.example/bonddesk/impl.monthStart", "internal/strconv.uint64pow10", "math/bits.deBruijn32tab", "math/bits.deBruijn64tab"], apart := false, laid := [("math/bits.deBruijn32tab", laid_math_bits_deBruijn32tab), ("math/bits.deBruijn64tab", laid_math_bits_deBruijn64tab), ("internal/strconv.uint64pow10", laid_internal_strconv_uint64pow10), ("loop.example/bonddesk/impl.monthStart", laid_loop_example_bonddesk_impl_monthStart)], narrowed := true }
def FnTopTextUptoSaid : Prop := fnTopTextUptoRow.holds Tryd.pinned (OpenSpec.upto fnTopTextSpec)

/-- 'laws.FnExactFormatDate', WHERE WHAT IT READS IS OF BULK AT MOST 1048576: true; the input reads as it did. -/
def fnExactFormatDateUptoRow : OpenClaim := { program := "ytapalkohfhohhaadoor", sum := "8e4625608848eec590b5041d3a21a644ae58a47637511e2850955dffd24e0411", func := "loop.example/bonddesk/laws.FnExactFormatDate", spec := "fnExactFormatDate", inPlace := ["internal/abi.NoEscape", "internal/bytealg.MakeNoZero"], recurses := true, named := ["loop.example/bonddesk/impl.monthStart", "internal/strconv.uint64pow10", "math/bits.deBruijn32tab", "math/bits.deBruijn64tab"], apart := false, laid := [("math/bits.deBruijn32tab", laid_math_bits_deBruijn32tab), ("math/bits.deBruijn64tab", laid_math_bits_deBruijn64tab), ("internal/strconv.uint64pow10", laid_internal_strconv_uint64pow10), ("loop.example/bonddesk/impl.monthStart", laid_loop_example_bonddesk_impl_monthStart)], narrowed := true }
def FnExactFormatDateUptoSaid : Prop := fnExactFormatDateUptoRow.holds Tryd.pinned (OpenSpec.upto fnExactFormatDateSpec)

/-- 'laws.FnExactParseDate', WHERE WHAT IT READS IS OF BULK AT MOST 1048576: true; the input reads as it did. -/
def fnExactParseDateUptoRow : OpenClaim := { program := "ytapalkohfhohhaadoor", sum := "8e4625608848eec590b5041d3a21a644ae58a47637511e2850955dffd24e0411", func := "loop.example/bonddesk/laws.FnExactParseDate", spec := "fnExactParseDate", inPlace := ["internal/abi.NoEscape", "internal/bytealg.MakeNoZero"], unfollowed := true, recurses := true, named := ["loop.example/bonddesk/impl.monthStart", "internal/strconv.uint64pow10", "math/bits.deBruijn32tab", "math/bits.deBruijn64tab"], apart := false, laid := [("math/bits.deBruijn32tab", laid_math_bits_deBruijn32tab), ("math/bits.deBruijn64tab", laid_math_bits_deBruijn64tab), ("internal/strconv.uint64pow10", laid_internal_strconv_uint64pow10), ("loop.example/bonddesk/impl.monthStart", laid_loop_example_bonddesk_impl_monthStart)], narrowed := true }
def FnExactParseDateUptoSaid : Prop := fnExactParseDateUptoRow.holds Tryd.pinned (OpenSpec.upto fnExactParseDateSpec)

/-- 'laws.FnExactFormatBond', WHERE WHAT IT READS IS OF BULK AT MOST 1048576: true; the input reads as it did. -/
def fnExactFormatBondUptoRow : OpenClaim := { program := "ytapalkohfhohhaadoor", sum := "8e4625608848eec590b5041d3a21a644ae58a47637511e2850955dffd24e0411", func := "loop.example/bonddesk/laws.FnExactFormatBond", spec := "fnExactFormatBond", inPlace := ["internal/abi.NoEscape", "internal/bytealg.MakeNoZero"], unfollowed := true, recurses := true, named := ["loop.example/bonddesk/impl.monthStart", "internal/strconv.uint64pow10", "math/bits.deBruijn32tab", "math/bits.deBruijn64tab"], apart := false, laid := [("math/bits.deBruijn32tab", laid_math_bits_deBruijn32tab), ("math/bits.deBruijn64tab", laid_math_bits_deBruijn64tab), ("internal/strconv.uint64pow10", laid_internal_strconv_uint64pow10), ("loop.example/bonddesk/impl.monthStart", laid_loop_example_bonddesk_impl_monthStart)], narrowed := true }
def FnExactFormatBondUptoSaid : Prop := fnExactFormatBondUptoRow.holds Tryd.pinned (OpenSpec.upto fnExactFormatBondSpec)

/-- 'laws.FnExactParseBond', WHERE WHAT IT READS IS OF BULK AT MOST 1048576: true; the input reads as it did. -/
def fnExactParseBondUptoRow : OpenClaim := { program := "ytapalkohfhohhaadoor", sum := "8e4625608848eec590b5041d3a21a644ae58a47637511e2850955dffd24e0411", func := "loop.example/bonddesk/laws.FnExactParseBond", spec := "fnExactParseBond", inPlace := ["internal/abi.NoEscape", "internal/bytealg.MakeNoZero"], unfollowed := true, recurses := true, named := ["loop.example/bonddesk/impl.monthStart", "internal/strconv.uint64pow10", "math/bits.deBruijn32tab", "math/bits.deBruijn64tab"], apart := false, laid := [("math/bits.deBruijn32tab", laid_math_bits_deBruijn32tab), ("math/bits.deBruijn64tab", laid_math_bits_deBruijn64tab), ("internal/strconv.uint64pow10", laid_internal_strconv_uint64pow10), ("loop.example/bonddesk/impl.monthStart", laid_loop_example_bonddesk_impl_monthStart)], narrowed := true }
def FnExactParseBondUptoSaid : Prop := fnExactParseBondUptoRow.holds Tryd.pinned (OpenSpec.upto fnExactParseBondSpec)

end Rows
end Go.Proofs.YtapalkohfhohhaaDoor
