package rule

import (
	"errors"
	"strconv"

	"vivarium/api"
)

// refusal is why a book did not keep a table: a fault of the name's or of the book's own, or the error of whoever read the text.
type refusal struct {
	cause error
}

// Error is a text. The fault is asked for, for it may lie deeper than the cause.
func (r refusal) Error() string {
	var fault *api.Fault
	if !errors.As(r.cause, &fault) {
		return "rule: no table"
	}
	return "rule: no table: " + fault.Error() + " at " + strconv.Itoa(fault.At)
}

// Unwrap is the cause, for errors.As.
func (r refusal) Unwrap() error { return r.cause }
