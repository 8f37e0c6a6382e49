/-
  DERIVED. GIVEN WITH THE SEED: THE CARDS: each row of YtchpkpajnjcnbaaDoorRows.lean that lists a variable, with what it lists TIED to the program's text (the seventh form; the later family's looks); each row that meets fmt, with fmt's text TOLD by the authors' own Lean function (tested against real Go, not proved from fmt's source: count such statements apart). THE CARD IS WHAT COUNTS. Prove the row's statement (the work); the ties are given (YtchpkpajnjcnbaaDoorTie.lean); close each card by the builder's one call (the guide's Derived/Test/ToyasCard.lean, 'card_holds'). Laid BY PROGRAM, IN A SANDBOX (cutbox-door.mjs). By AI agents, Wed Nov 11 2026. No macro, syntax, notation, axiom, sorry.
-/
import Derived.Test.YtchpkpajnjcnbaaDoorRows
import GoSem.ClaimSeven
namespace Go.Proofs.YtchpkpajnjcnbaaDoor
namespace Rows

/-- THE TIED CARD OF 'laws.FnExactHash'. -/
def fnExactHashCard : Claim7 := { stood := { row := fnExactHashRow, standIns := [], harness := (true, "fd0652540d0994ebe64460f0e5bd7907cc747cc2d5d44dacfd45b3814851276d"), looks := true }, kinds := [], alts := [], laidByText := true, laidKinds := [.sentinel, .sentinel], laidTests := true, laidLooks := .later }
def FnExactHashCardSaid : Prop := Claim7.holds Tryd.pinned (.plain (OpenSpec.ofChange fnExactHashSpec)) fnExactHashCard

/-- THE TIED CARD OF 'laws.FnExactKeyedHash'. -/
def fnExactKeyedHashCard : Claim7 := { stood := { row := fnExactKeyedHashRow, standIns := [], harness := (true, "fd0652540d0994ebe64460f0e5bd7907cc747cc2d5d44dacfd45b3814851276d"), looks := true }, kinds := [], alts := [], laidByText := true, laidKinds := [.sentinel, .sentinel], laidTests := true, laidLooks := .later }
def FnExactKeyedHashCardSaid : Prop := Claim7.holds Tryd.pinned (.plain (OpenSpec.ofChange fnExactKeyedHashSpec)) fnExactKeyedHashCard

/-- THE TIED CARD OF 'laws.FnExactEncrypt'. -/
def fnExactEncryptCard : Claim7 := { stood := { row := fnExactEncryptRow, standIns := [], harness := (true, "fd0652540d0994ebe64460f0e5bd7907cc747cc2d5d44dacfd45b3814851276d"), looks := true }, kinds := [], alts := [], laidByText := true, laidKinds := [.sentinel, .sentinel], laidTests := true, laidLooks := .later }
def FnExactEncryptCardSaid : Prop := Claim7.holds Tryd.pinned (.plain (OpenSpec.ofChange fnExactEncryptSpec)) fnExactEncryptCard

/-- THE TIED CARD OF 'laws.FnExactDecrypt'. -/
def fnExactDecryptCard : Claim7 := { stood := { row := fnExactDecryptRow, standIns := [], harness := (true, "fd0652540d0994ebe64460f0e5bd7907cc747cc2d5d44dacfd45b3814851276d"), looks := true }, kinds := [], alts := [], laidByText := true, laidKinds := [.sentinel, .sentinel], laidTests := true, laidLooks := .later }
def FnExactDecryptCardSaid : Prop := Claim7.holds Tryd.pinned (.plain (OpenSpec.ofChange fnExactDecryptSpec)) fnExactDecryptCard

/-- THE TIED CARD OF 'laws.FnExactDeriveFromString'. -/
def fnExactDeriveFromStringCard : Claim7 := { stood := { row := fnExactDeriveFromStringRow, standIns := [], harness := (true, "fd0652540d0994ebe64460f0e5bd7907cc747cc2d5d44dacfd45b3814851276d"), looks := true }, kinds := [], alts := [], laidByText := true, laidKinds := [.sentinel, .sentinel], laidTests := true, laidLooks := .later }
def FnExactDeriveFromStringCardSaid : Prop := Claim7.holds Tryd.pinned (.plain (OpenSpec.ofChange fnExactDeriveFromStringSpec)) fnExactDeriveFromStringCard

/-- THE TIED CARD OF 'laws.FnCipher'. -/
def fnCipherCard : Claim7 := { stood := { row := fnCipherRow, standIns := [], harness := (true, "fd0652540d0994ebe64460f0e5bd7907cc747cc2d5d44dacfd45b3814851276d"), looks := true }, kinds := [], alts := [], laidByText := true, laidKinds := [.sentinel, .sentinel], laidTests := true, laidLooks := .later }
def FnCipherCardSaid : Prop := Claim7.holds Tryd.pinned (.plain (OpenSpec.ofChange fnCipherSpec)) fnCipherCard

/-- THE TIED CARD OF 'laws.FnKeyedHash'. -/
def fnKeyedHashCard : Claim7 := { stood := { row := fnKeyedHashRow, standIns := [], harness := (true, "fd0652540d0994ebe64460f0e5bd7907cc747cc2d5d44dacfd45b3814851276d"), looks := true }, kinds := [], alts := [], laidByText := true, laidKinds := [.sentinel, .sentinel], laidTests := true, laidLooks := .later }
def FnKeyedHashCardSaid : Prop := Claim7.holds Tryd.pinned (.plain (OpenSpec.ofChange fnKeyedHashSpec)) fnKeyedHashCard

/-- THE TIED CARD OF 'laws.FnExactShuffled'. -/
def fnExactShuffledCard : Claim7 := { stood := { row := fnExactShuffledRow, standIns := [], harness := (true, "fd0652540d0994ebe64460f0e5bd7907cc747cc2d5d44dacfd45b3814851276d"), looks := true }, kinds := [], alts := [], laidByText := true, laidKinds := [.sentinel, .sentinel], laidTests := true, laidLooks := .later }
def FnExactShuffledCardSaid : Prop := Claim7.holds Tryd.pinned (.plain (OpenSpec.ofChange fnExactShuffledSpec)) fnExactShuffledCard

/-- THE SECOND FORM's CARD OF 'laws.FnExactHash'. -/
def fnExactHashUptoCard : Claim7 := { stood := { row := fnExactHashUptoRow, standIns := [], harness := (true, "fd0652540d0994ebe64460f0e5bd7907cc747cc2d5d44dacfd45b3814851276d"), looks := true }, kinds := [], alts := [], laidByText := true, laidKinds := [.sentinel, .sentinel], laidTests := true, laidLooks := .later }
def FnExactHashUptoCardSaid : Prop := Claim7.holds Tryd.pinned (.plain (OpenSpec.upto fnExactHashSpec)) fnExactHashUptoCard

/-- THE SECOND FORM's CARD OF 'laws.FnExactKeyedHash'. -/
def fnExactKeyedHashUptoCard : Claim7 := { stood := { row := fnExactKeyedHashUptoRow, standIns := [], harness := (true, "fd0652540d0994ebe64460f0e5bd7907cc747cc2d5d44dacfd45b3814851276d"), looks := true }, kinds := [], alts := [], laidByText := true, laidKinds := [.sentinel, .sentinel], laidTests := true, laidLooks := .later }
def FnExactKeyedHashUptoCardSaid : Prop := Claim7.holds Tryd.pinned (.plain (OpenSpec.upto fnExactKeyedHashSpec)) fnExactKeyedHashUptoCard

/-- THE SECOND FORM's CARD OF 'laws.FnExactEncrypt'. -/
def fnExactEncryptUptoCard : Claim7 := { stood := { row := fnExactEncryptUptoRow, standIns := [], harness := (true, "fd0652540d0994ebe64460f0e5bd7907cc747cc2d5d44dacfd45b3814851276d"), looks := true }, kinds := [], alts := [], laidByText := true, laidKinds := [.sentinel, .sentinel], laidTests := true, laidLooks := .later }
def FnExactEncryptUptoCardSaid : Prop := Claim7.holds Tryd.pinned (.plain (OpenSpec.upto fnExactEncryptSpec)) fnExactEncryptUptoCard

/-- THE SECOND FORM's CARD OF 'laws.FnExactDecrypt'. -/
def fnExactDecryptUptoCard : Claim7 := { stood := { row := fnExactDecryptUptoRow, standIns := [], harness := (true, "fd0652540d0994ebe64460f0e5bd7907cc747cc2d5d44dacfd45b3814851276d"), looks := true }, kinds := [], alts := [], laidByText := true, laidKinds := [.sentinel, .sentinel], laidTests := true, laidLooks := .later }
def FnExactDecryptUptoCardSaid : Prop := Claim7.holds Tryd.pinned (.plain (OpenSpec.upto fnExactDecryptSpec)) fnExactDecryptUptoCard

/-- THE SECOND FORM's CARD OF 'laws.FnExactDeriveFromString'. -/
def fnExactDeriveFromStringUptoCard : Claim7 := { stood := { row := fnExactDeriveFromStringUptoRow, standIns := [], harness := (true, "fd0652540d0994ebe64460f0e5bd7907cc747cc2d5d44dacfd45b3814851276d"), looks := true }, kinds := [], alts := [], laidByText := true, laidKinds := [.sentinel, .sentinel], laidTests := true, laidLooks := .later }
def FnExactDeriveFromStringUptoCardSaid : Prop := Claim7.holds Tryd.pinned (.plain (OpenSpec.upto fnExactDeriveFromStringSpec)) fnExactDeriveFromStringUptoCard

/-- THE SECOND FORM's CARD OF 'laws.FnCipher'. -/
def fnCipherUptoCard : Claim7 := { stood := { row := fnCipherUptoRow, standIns := [], harness := (true, "fd0652540d0994ebe64460f0e5bd7907cc747cc2d5d44dacfd45b3814851276d"), looks := true }, kinds := [], alts := [], laidByText := true, laidKinds := [.sentinel, .sentinel], laidTests := true, laidLooks := .later }
def FnCipherUptoCardSaid : Prop := Claim7.holds Tryd.pinned (.plain (OpenSpec.upto fnCipherSpec)) fnCipherUptoCard

/-- THE SECOND FORM's CARD OF 'laws.FnKeyedHash'. -/
def fnKeyedHashUptoCard : Claim7 := { stood := { row := fnKeyedHashUptoRow, standIns := [], harness := (true, "fd0652540d0994ebe64460f0e5bd7907cc747cc2d5d44dacfd45b3814851276d"), looks := true }, kinds := [], alts := [], laidByText := true, laidKinds := [.sentinel, .sentinel], laidTests := true, laidLooks := .later }
def FnKeyedHashUptoCardSaid : Prop := Claim7.holds Tryd.pinned (.plain (OpenSpec.upto fnKeyedHashSpec)) fnKeyedHashUptoCard

/-- THE SECOND FORM's CARD OF 'laws.FnExactShuffled'. -/
def fnExactShuffledUptoCard : Claim7 := { stood := { row := fnExactShuffledUptoRow, standIns := [], harness := (true, "fd0652540d0994ebe64460f0e5bd7907cc747cc2d5d44dacfd45b3814851276d"), looks := true }, kinds := [], alts := [], laidByText := true, laidKinds := [.sentinel, .sentinel], laidTests := true, laidLooks := .later }
def FnExactShuffledUptoCardSaid : Prop := Claim7.holds Tryd.pinned (.plain (OpenSpec.upto fnExactShuffledSpec)) fnExactShuffledUptoCard
end Rows
end Go.Proofs.YtchpkpajnjcnbaaDoor
