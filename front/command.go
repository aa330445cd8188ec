package front

import (
	"slices"
	"strconv"

	"ulp/special"
)

// reader keeps what an argument says, and tells whether it is one of its kind.
type reader func(g *given, s string) bool

// command is what it takes, how many files beside, and what it puts out.
type command struct {
	takes   []reader
	numbers bool // and, behind these, the numbers of a function, which is the first
	files   int
	puts    func(g *given) string
}

// commands stand by their words.
func commands() map[string]command {
	function, count, number := (*given).takesFunction, (*given).takesCount, (*given).takesNumber
	return map[string]command{
		"names":   {puts: (*given).names},
		"call":    {takes: []reader{function}, numbers: true, puts: (*given).call},
		"enclose": {takes: []reader{function, count}, numbers: true, puts: (*given).enclose},
		"read":    {takes: []reader{(*given).takesText}, puts: (*given).read},
		"show":    {takes: []reader{(*given).takesBits}, puts: (*given).show},
		"digits":  {takes: []reader{count, number}, puts: (*given).digits},
		"next":    {takes: []reader{number}, puts: (*given).next},
		"const":   {takes: []reader{(*given).takesConstant, count}, puts: (*given).decimals},
		"table":   {takes: []reader{(*given).takesTable, count, count}, puts: (*given).entries},
		"script":  {files: 1, puts: (*given).script},
	}
}

// commandOf is the one whose word comes first.
func commandOf(args []string) command {
	if len(args) == 0 {
		giveUpUsage("command")
	}
	c, known := commands()[args[0]]
	if !known {
		giveUpUsage("command")
	}
	return c
}

// fewest is how many arguments a command has at least that takes a function's numbers, whichever that is.
const fewest = 2

// given is what the arguments behind a command's word say.
func (c command) given(args []string) *given {
	g, takes := &given{}, c.takes
	if c.numbers {
		if len(args) < fewest {
			giveUpUsage("arguments")
		}
		// Only the function tells how many numbers there must be: so it is looked at ahead of their count.
		g.keep(args, 0, takes[0])
		takes = slices.Concat(takes, slices.Repeat([]reader{(*given).takesNumber}, special.Args(g.function)))
	}
	if len(args) != len(takes) {
		giveUpUsage("arguments")
	}
	for i, take := range takes {
		g.keep(args, i, take)
	}
	return g
}

// keep reads the argument at a place, from 0 on.
func (g *given) keep(args []string, place int, take reader) {
	if !take(g, args[place]) {
		giveUpUsage("argument " + strconv.Itoa(place+1))
	}
}
