package mill

import "sluice/api"

// Class tells which kind of trouble an error is (P19.11).
func Class(e api.Errno) api.Class {
	switch e {
	case api.OK:
		return api.Fine
	case api.ErrSpent, api.ErrLength, api.ErrTight, api.ErrRoom:
		return api.TooSmall
	case api.ErrQuota, api.ErrTaken:
		return api.DiskFull
	case api.ErrIO, api.ErrPlace, api.ErrTwo, api.ErrHalf, api.ErrAlien:
		return api.IOFault
	case api.ErrTorn, api.ErrChunk, api.ErrBody, api.ErrOrder, api.ErrTitle, api.ErrTotal, api.ErrBehind, api.ErrSeal, api.ErrNoFile:
		return api.Corrupt
	case api.ErrOff:
		return api.PowerOff
	case api.ErrRagged, api.ErrHeader, api.ErrLine, api.ErrToken, api.ErrNode, api.ErrScale, api.ErrCount, api.ErrFormat, api.ErrVertex, api.ErrWeight:
		return api.BadInput
	case api.ErrFuel, api.ErrTrapInt, api.ErrTrapZero, api.ErrTrapReal, api.ErrCap, api.ErrColours, api.ErrBeyond:
		return api.Trapped
	}
	return api.BadConfig
}
