// Package fault: how a reader gives up deep inside, and what the call's face makes of it.
package fault

import (
	"strconv"

	"mosaic/api"
)

// Fault is what a reader panics with: an error that carries the number the call answers.
type Fault api.Errno

func (f Fault) Error() string { return "mosaic: error " + strconv.Itoa(int(f)) }

// Number is what a call answers after it recovered caught: OK if nothing was.
// No panic may leave a call, so one that is no Fault counts as other.
func Number(caught any, other api.Errno) api.Errno {
	if caught == nil {
		return api.OK
	}
	if f, ok := caught.(Fault); ok {
		return api.Errno(f)
	}
	return other
}
