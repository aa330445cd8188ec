package front

import (
	"strconv"

	"ulp/api"
	"ulp/sixteen"
	"ulp/special"
	"ulp/text"
)

// mostDigits is how many a count has at most.
const mostDigits = 9

// given is what was handed in with a command, read.
type given struct {
	function api.Func
	constant api.ConstKind
	table    api.TableKind
	counts   []int
	numbers  []uint64
	text     string
	files    []string
}

func (g *given) takesFunction(s string) bool {
	f, known := special.Find(s)
	g.function = f
	return known
}

// takesCount writes what it reads again: so noughts ahead are seen.
func (g *given) takesCount(s string) bool {
	n, err := strconv.ParseUint(s, 10, 32)
	g.counts = append(g.counts, int(n))
	return err == nil && len(s) <= mostDigits && strconv.FormatUint(n, 10) == s
}

func (g *given) takesNumber(s string) bool {
	r, why := text.Parse(s)
	g.numbers = append(g.numbers, r.Bits)
	return why == api.OK
}

func (g *given) takesBits(s string) bool {
	x, is := sixteen.Read(s)
	g.numbers = append(g.numbers, x)
	return is
}

func (g *given) takesText(s string) bool {
	g.text = s
	return true
}

func (g *given) takesConstant(s string) bool {
	k, known := map[string]api.ConstKind{
		"pi": api.ConstPi, "ln2": api.ConstLn2, "ln10": api.ConstLn10, "e": api.ConstE,
		"invpi": api.ConstInvPi, "invln2": api.ConstInvLn2, "invln10": api.ConstInvLn10,
	}[s]
	g.constant = k
	return known
}

func (g *given) takesTable(s string) bool {
	k, known := map[string]api.TableKind{
		"exp2": api.TableExp2, "log": api.TableLog, "inverse": api.TableInverse, "atan": api.TableAtan, "sinpi": api.TableSinpi,
	}[s]
	g.table = k
	return known
}
