package roster

import (
	"errors"
	"strconv"

	"sluice/api"
)

// fault is what a text is refused for, and where: whoever meets one gives up by panic, so that nothing behind it is looked at.
type fault struct {
	code api.Errno
	spot api.Spot
}

func (f fault) Error() string {
	return f.code.Error() + " at " + strconv.Itoa(f.spot.Line) + ", " + strconv.Itoa(f.spot.Col)
}

func refuse(code api.Errno, spot api.Spot) { panic(fault{code, spot}) }

// caught tells what a reading has given up for.
func caught(gave any) (api.Errno, api.Spot) {
	if err, ok := gave.(error); ok {
		var f fault
		if errors.As(err, &f) {
			return f.code, f.spot
		}
	}
	return api.ErrPanic, api.Spot{}
}
