package fault

import (
	"errors"
	"testing"

	"mosaic/api"
)

func TestNumber(t *testing.T) {
	for _, c := range []struct {
		caught any
		want   api.Errno
	}{
		{nil, api.OK},
		{Fault(api.ErrLimit), api.ErrLimit},
		{Fault(api.ErrDeflate), api.ErrDeflate},
		{errors.New("something else"), api.ErrZlib},
		{7, api.ErrZlib},
	} {
		if n := Number(c.caught, api.ErrZlib); n != c.want {
			t.Errorf("Number(%v) = %d, want %d", c.caught, n, c.want)
		}
	}
}

func TestError(t *testing.T) {
	var err error = Fault(api.ErrLimit)
	if err.Error() != "mosaic: error 7" {
		t.Error(err)
	}
}
