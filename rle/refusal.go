package rle

import (
	"vivarium/api"
	"vivarium/whole"
)

// refusal is why a text was not read.
type refusal struct {
	fault *api.Fault
}

// Error is a text.
func (r refusal) Error() string {
	return "rle: " + r.fault.Error() + " at " + whole.Text(r.fault.At)
}

// Unwrap is the fault, for errors.As.
func (r refusal) Unwrap() error { return r.fault }

// fault is what is wrong at a place.
func fault(code api.Errno, at int) *api.Fault {
	return &api.Fault{Code: code, At: at}
}
