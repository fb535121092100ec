// Package stamp tells which write came behind which: see doc/01-stamp.md.
package stamp

import (
	"errors"

	"cardamom/api"
)

// maxTime is as many writes as all replicas together can make: each moves the time on by one.
const maxTime = api.MaxCount * api.MaxRepl

var errMayNot = errors.New("stamp: it may not be")

// fault names the number of a stamp that is beyond its limits.
type fault struct{ part string }

func (f fault) Error() string { return errMayNot.Error() + ": " + f.part }

func (f fault) Unwrap() error { return errMayNot }

// May tells whether s can be the stamp of a write.
func May(s api.Stamp) bool {
	return !errors.Is(check(s), errMayNot)
}

// Compare tells the order of a and b in the one row of all stamps: -1, 0 or 1.
func Compare(a, b api.Stamp) int {
	switch {
	case a == b:
		return 0
	case a.L < b.L:
		fallthrough
	case a.L == b.L && a.R < b.R:
		fallthrough
	case a.L == b.L && a.R == b.R && a.N < b.N:
		return -1
	default:
		return 1
	}
}

// Next tells the stamp of replica r's next write: l is the greatest time that it has seen, n its last write's number.
func Next(l, r, n int) (api.Stamp, bool) {
	// The greatest int wraps round to the least one here, which check refuses.
	s := api.Stamp{L: l + 1, R: r, N: n + 1}
	if errors.Is(check(s), errMayNot) {
		return api.Stamp{}, false
	}
	return s, true
}

func check(s api.Stamp) error {
	switch {
	case !from1(s.L, maxTime):
		return fault{"L"}
	case !from1(s.R, api.MaxRepl):
		return fault{"R"}
	// Each write of a replica moves its time on: it can have made no more than L of them.
	case !from1(s.N, min(api.MaxCount, s.L)):
		return fault{"N"}
	}
	return nil
}

func from1(n, most int) bool { return 1 <= n && n <= most }
