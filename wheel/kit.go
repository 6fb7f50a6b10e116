package wheel

import (
	"sluice/api"
	"sluice/purse"
)

// kit is what a call has leased of a purse.
type kit struct {
	purse *purse.Purse
	give  []func() api.Errno
	err   api.Errno // of the first lease that was refused
}

// lease takes so many elements; behind a refusal none, so that one look at the kit's error does for all.
func lease[T purse.Plain](k *kit, n int, tag string) []T {
	if k.err != api.OK {
		return nil
	}
	l, err := purse.Take[T](k.purse, n, "wheel", tag)
	if err != api.OK {
		k.err = err
		return nil
	}
	k.give = append(k.give, l.Give)
	return l.Slice()
}

// giveBack gives all back.
func (k *kit) giveBack() {
	for _, give := range k.give {
		give()
	}
	k.give = nil
}
