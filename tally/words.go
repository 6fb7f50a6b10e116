package tally

import (
	"math/bits"

	"sluice/api"
)

// fill tells what stands in all words above a sum's own: its sign's bit.
func (s Sum) fill() uint64 { return uint64(int64(s[api.TallyWords-1]) >> (wordBits - 1)) }

// size tells the sum without its sign: a number without a sign of its own, since that of the least sum needs all bits.
func (s Sum) size() Sum {
	if s.Sign() < 0 {
		return s.Neg()
	}
	return s
}

// up moves all bits k places up, k from 0 to sumBits - 1; those at the top are lost.
func (s Sum) up(k int) Sum {
	var moved Sum
	words, places := k/wordBits, k%wordBits
	var low uint64
	for i := range api.TallyWords - words {
		moved[i+words] = s[i]<<places | low
		low = s[i] >> (wordBits - places)
	}
	return moved
}

// down moves all bits k places down, k from 0 to sumBits - 1; those at the bottom are lost, and fill comes in at the top.
func (s Sum) down(k int, fill uint64) Sum {
	var moved Sum
	words, places := k/wordBits, k%wordBits
	high := fill
	for i := range api.TallyWords {
		at := api.TallyWords - 1 - i
		word := fill
		if at+words < api.TallyWords {
			word = s[at+words]
		}
		moved[at] = high<<(wordBits-places) | word>>places
		high = word
	}
	return moved
}

// length tells how many bits there are up to the highest one that is set.
func (s Sum) length() int {
	for i := range api.TallyWords {
		at := api.TallyWords - 1 - i
		if s[at] != 0 {
			return at*wordBits + bits.Len64(s[at])
		}
	}
	return 0
}

// scaled multiplies a number without a sign, and tells what goes beyond its words.
func (s Sum) scaled(by uint64) (product Sum, beyond uint64) {
	for i := range api.TallyWords {
		high, low := bits.Mul64(s[i], by)
		var carry uint64
		product[i], carry = bits.Add64(low, beyond, 0)
		beyond = high + carry
	}
	return product, beyond
}

// parted divides a number without a sign, and tells what is left over; by is not 0.
func (s Sum) parted(by uint64) (quotient Sum, left uint64) {
	for i := range api.TallyWords {
		at := api.TallyWords - 1 - i
		quotient[at], left = bits.Div64(left, s[at], by)
	}
	return quotient, left
}
