package walk

import (
	"math"

	"hackle/api"
	"hackle/fact"
	"hackle/val"
)

// isNumber tells whether it is a number.
func isNumber(v api.Val) bool { return v.Kind == api.ValNum }

// counted is a number that is known.
func counted(n uint64) api.Val { return val.Num(fact.Of(n)) }

// known is the number, if it is one that is known. What is no number has the fact of 0.
func known(v api.Val) (uint64, bool) {
	if !isNumber(v) {
		return 0, false
	}
	return fact.Known(v.N)
}

// anything is a number of which nothing is known.
func anything() api.Val { return val.Num(fact.Any()) }

// upTo is a number that is not above most.
func upTo(most uint64) api.Val {
	f := fact.Any()
	f.Range.High = most
	f, _ = fact.Settle(f)
	return val.Num(f)
}

// sized is a number of so many bytes.
func sized(size int) api.Val { return upTo(math.MaxUint64 >> (64 - 8*size)) }
