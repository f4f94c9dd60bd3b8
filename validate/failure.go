package validate

import (
	"errors"

	"accesscontrol/api"
)

// The failures of requests.
var (
	errContext = errors.New("a context is not valid")
	errClass   = errors.New("there is no such class")
	errDenied  = errors.New("a permission is not granted")
)

// denial is errDenied of a check, with the permissions that are denied.
type denial struct {
	error
	perms uint32
}

func (d denial) Unwrap() error { return d.error }

// failure returns the failure with a code; nil if there is none.
func failure(code api.Errno) error {
	switch code {
	case api.ErrContext:
		return errContext
	case api.ErrClass:
		return errClass
	}
	return nil
}

// codeOf returns the code of a failure.
func codeOf(err error) api.Errno {
	switch {
	case errors.Is(err, errContext):
		return api.ErrContext
	case errors.Is(err, errClass):
		return api.ErrClass
	case errors.Is(err, errDenied):
		return api.ErrDenied
	}
	return api.OK
}

// outcome returns the permissions that a request is denied, and its code.
func outcome(err error) (uint32, api.Errno) {
	var d denial
	errors.As(err, &d)
	return d.perms, codeOf(err)
}
