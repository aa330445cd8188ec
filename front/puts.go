package front

import (
	"strconv"
	"strings"

	"ulp/api"
	"ulp/bits"
	"ulp/consts"
	"ulp/flags"
	"ulp/libm"
	"ulp/session"
	"ulp/sixteen"
	"ulp/special"
	"ulp/tables"
	"ulp/text"
	"ulp/ziv"
)

// line is words with a blank between, and an LF.
func line(words ...string) string { return strings.Join(words, " ") + "\n" }

// resultLine is a result as it is put out.
func resultLine(r api.Result) string {
	return line(text.Shortest(r.Bits), sixteen.Show(r.Bits), flags.Show(r.Flags))
}

func (g *given) names() string {
	var out strings.Builder
	for f := api.FuncExp; f < api.FuncCount; f++ {
		out.WriteString(line(special.Name(f), strconv.Itoa(special.Args(f))))
	}
	return out.String()
}

// point are the function's arguments; y of one that has one alone is 0.
func (g *given) point() (x, y uint64) {
	if len(g.numbers) > 1 {
		y = g.numbers[1]
	}
	return g.numbers[0], y
}

func (g *given) call() string {
	x, y := g.point()
	return resultLine(sure(libm.Call(g.function, x, y, 0)))
}

func (g *given) enclose() string {
	x, y := g.point()
	v := sure(ziv.Enclose(g.function, x, y, g.counts[0]))
	return sure(tables.Print([]api.Dyad{v.Lo, v.Hi}))
}

func (g *given) read() string { return resultLine(sure(text.Parse(g.text))) }

func (g *given) show() string {
	x := g.numbers[0]
	return line(text.Shortest(x), text.Hex(x), text.Exact(x))
}

func (g *given) digits() string { return line(sure(text.Digits(g.numbers[0], g.counts[0]))) }

func (g *given) next() string {
	x := g.numbers[0]
	return line(text.Shortest(bits.Down(x)), text.Shortest(bits.Up(x)))
}

func (g *given) decimals() string { return line(sure(consts.Digits(g.constant, g.counts[0]))) }

func (g *given) entries() string {
	return sure(tables.Print(sure(tables.All(g.table, g.counts[0], g.counts[1]))))
}

func (g *given) script() string {
	entries, why, at := session.Parse(g.files[0])
	if why != api.OK {
		giveUpError(why, at)
	}
	replies, stand, why := session.Run(entries)
	if why != api.OK {
		giveUpError(why, 0)
	}
	var out strings.Builder
	for i, r := range replies {
		out.WriteString(replyLine(entries[i].Op, r))
	}
	return out.String() + line("flags", flags.Show(stand))
}

// replyLine is what an entry of a kind answered, as it is put out.
func replyLine(op api.OpKind, r api.Reply) string {
	switch {
	case r.Why != api.OK:
		return line("error", strconv.Itoa(int(r.Why)))
	case op == api.OpCall:
		return resultLine(r.Result)
	case op == api.OpTest || op == api.OpHold:
		return line(flags.Show(r.Flags))
	default:
		return line("ok")
	}
}
