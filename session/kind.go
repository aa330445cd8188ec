package session

import (
	"math"

	"ulp/api"
	"ulp/flags"
	"ulp/libm"
)

// lastStage is the greatest stage at which a call may begin; the least is 0.
const lastStage = 2

// kind is what entries of a kind are: their word, what they do, and how they are made.
type kind struct {
	word string
	do   func(s *Session, e api.Entry) api.Reply
	shape
}

// shape is how entries of some kinds are made: which are right, what their texts can tell of them, and how that is written behind their word, and read (whatever comes of words that are wrong: it is written otherwise).
type shape struct {
	right func(e api.Entry) bool
	told  func(e api.Entry) api.Entry
	write func(e api.Entry) []string
	read  func(words []string) api.Entry
}

// kinds stand by their numbers; that of OpNone is none.
func kinds() [api.OpCount]kind {
	calls := shape{isCall, wholeTold, writeCall, readCall}
	sets := shape{isSet, setTold, writeSet, readSet}
	bare := shape{isAny, nothingTold, writeNothing, readNothing}
	return [api.OpCount]kind{
		api.OpCall:  {"call", (*Session).call, calls},
		api.OpTest:  {"test", (*Session).test, sets},
		api.OpClear: {"clear", (*Session).clear, sets},
		api.OpRaise: {"raise", (*Session).raise, sets},
		api.OpHold:  {"hold", (*Session).hold, bare},
	}
}

// rightKind is the kind of an entry, if that is right.
func rightKind(e api.Entry) (kind, bool) {
	if e.Op == api.OpNone || e.Op >= api.OpCount {
		return kind{}, false
	}
	k := kinds()[e.Op]
	return k, k.right(e)
}

func isCall(e api.Entry) bool {
	return libm.Args(e.Func) > 0 && e.Stage >= 0 && e.Stage <= lastStage
}

// isSet looks at all of X: of a number above 255 the last byte may look like flags.
func isSet(e api.Entry) bool { return e.X <= math.MaxUint8 && flags.Right(setOf(e)) }

func isAny(api.Entry) bool { return true }

// setOf is the set of flags that a right entry has.
func setOf(e api.Entry) api.Flags { return api.Flags(e.X) }

// answer does an entry that is right, and nothing else.
func (s *Session) answer(e api.Entry) api.Reply {
	k, right := rightKind(e)
	if !right {
		return api.Reply{Bad: true}
	}
	s.done++
	return k.do(s, e)
}

func (s *Session) call(e api.Entry) api.Reply {
	r, why := libm.Call(e.Func, e.X, e.Y, e.Stage)
	s.env.Raise(r.Flags)
	return api.Reply{Result: r, Why: why}
}

func (s *Session) test(e api.Entry) api.Reply {
	stand, _ := s.env.Test(setOf(e))
	return api.Reply{Flags: stand}
}

func (s *Session) clear(e api.Entry) api.Reply {
	s.env.Clear(setOf(e))
	return api.Reply{}
}

func (s *Session) raise(e api.Entry) api.Reply {
	s.env.Raise(setOf(e))
	return api.Reply{}
}

func (s *Session) hold(api.Entry) api.Reply {
	held, _ := s.env.Hold()
	return api.Reply{Flags: held}
}
