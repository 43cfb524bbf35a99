package table

import (
	"strconv"

	"vivarium/api"
)

// refusal is why a text was not read. What finds it, however deep inside a line, panics with it; Parse answers it.
type refusal struct {
	fault *api.Fault
}

// Error is a text.
func (r refusal) Error() string {
	return "table: " + r.fault.Error() + " at " + strconv.Itoa(r.fault.At)
}

// Unwrap is the fault, for errors.As.
func (r refusal) Unwrap() error { return r.fault }

// giveUp leaves all that reads the text.
func giveUp(code api.Errno, at int) {
	panic(refusal{fault: &api.Fault{Code: code, At: at}})
}

// caught is the refusal that was panicked with. Whatever else it was is no text's fault, and goes on.
func caught(thrown any) error {
	r, ours := thrown.(refusal)
	if !ours {
		panic(thrown)
	}
	return r
}
