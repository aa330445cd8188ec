package front

import (
	"testing"

	"ulp/api"
)

// P30.1: a call that is answered with an error. No argument is known at which libm does so: so the reply is made by hand.
func TestReplyLine(t *testing.T) {
	for _, c := range []struct {
		op    api.OpKind
		reply api.Reply
		want  string
	}{
		{api.OpCall, api.Reply{Why: api.ErrHard}, "error 6\n"},
		{api.OpCall, api.Reply{Why: api.ErrRange}, "error 2\n"},
		{api.OpCall, api.Reply{Result: api.Result{Bits: 0x3ff0000000000000}}, "1e0 3ff0000000000000 none\n"},
		{api.OpCall, api.Reply{}, "0 0000000000000000 none\n"},
		{api.OpTest, api.Reply{Flags: api.Invalid | api.Inexact}, "invalid inexact\n"},
		{api.OpTest, api.Reply{}, "none\n"},
		{api.OpClear, api.Reply{}, "ok\n"},
		{api.OpRaise, api.Reply{}, "ok\n"},
		{api.OpHold, api.Reply{Flags: api.Overflow}, "overflow\n"},
	} {
		if got := replyLine(c.op, c.reply); got != c.want {
			t.Errorf("kind %d, %+v: %q, want %q", c.op, c.reply, got, c.want)
		}
	}
}
