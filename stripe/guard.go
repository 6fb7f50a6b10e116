package stripe

import "sluice/api"

// begin is how every call on a stripe begins.
func (s *Stripe) begin() bool {
	if !s.made() {
		return false
	}
	s.failed = [api.MaxMembers]api.Errno{}
	return true
}

// each does one thing to every member that is in, and gathers what comes of it. If just one fails and none is out yet, that one is out from now on: the others make up for it. Else nobody is put out, and the answer is what the call is refused with.
func (s *Stripe) each(do func(m int) api.Errno) api.Errno {
	failures, last := 0, -1
	for m := range s.members {
		if m == s.out {
			continue
		}
		if err := do(m); err != api.OK {
			s.failed[m] = err
			failures, last = failures+1, m
		}
	}
	switch {
	case failures == 0:
		return api.OK
	case failures == 1 && s.out < 0:
		s.putOut(last)
		return api.OK
	}
	return s.verdict()
}

// putOut leaves a member out. The others have to hold that, durable, ahead of the next answer that rests upon them alone.
func (s *Stripe) putOut(m int) {
	s.out = m
	s.log.noted = false
}

// verdict tells what a call is refused with, by what members have failed with in it (P5.6).
func (s *Stripe) verdict() api.Errno {
	failures, off := 0, 0
	for _, err := range s.failed {
		switch err {
		case api.OK:
			continue
		case api.ErrQuota:
			return err
		case api.ErrOff:
			off++
		}
		failures++
	}
	if off > 0 && off == failures {
		return api.ErrOff
	}
	return api.ErrTwo
}

// holds tells whether a member's file has just so many bytes. A member that has lost what was not durable, without a word, has fewer.
func holds(v api.Volume, name string, size int64) api.Errno {
	got, err := v.Size(name)
	if err == api.OK && got != size {
		return api.ErrIO
	}
	return err
}

// read fills a buffer from a member's file, as far as it can; a short read is gone on with.
func read(v api.Volume, name string, at int64, into []byte) (int, api.Errno) {
	got := 0
	for got < len(into) {
		n, err := v.ReadAt(name, at+int64(got), into[got:])
		if err != api.OK {
			return got, err
		}
		if n <= 0 || n > len(into)-got {
			return got, api.ErrIO
		}
		got += n
	}
	return got, api.OK
}
