package sess

// Codes of the faults that a session finds itself.
const (
	codeMissing = "26000"
	codeExists  = "42P05"
	codeArity   = "08P01"
	codePortal  = "34000"
	codeCursor  = "42P03"
	codeAborted = "25P02"
	codeRan     = "55000"
)

// What those faults say of which no layer below tells it.
const (
	saysRan  = "portal cannot be run"
	saysFail = "failed on purpose"
)

// trouble is why something was not done: the code of its fault, and what that says.
type trouble struct {
	code, text string
}

// Error answers what the fault says.
func (t trouble) Error() string {
	return t.text
}
