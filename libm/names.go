package libm

import "ulp/api"

// names of the functions, by their numbers.
var names = [api.FuncCount]string{
	api.FuncExp: "exp", api.FuncExp2: "exp2", api.FuncExp10: "exp10", api.FuncExpm1: "expm1", api.FuncExp2m1: "exp2m1", api.FuncExp10m1: "exp10m1",
	api.FuncLog: "log", api.FuncLog2: "log2", api.FuncLog10: "log10", api.FuncLog1p: "log1p", api.FuncLog2p1: "log2p1", api.FuncLog10p1: "log10p1",
	api.FuncSin: "sin", api.FuncCos: "cos", api.FuncTan: "tan", api.FuncSinpi: "sinpi", api.FuncCospi: "cospi", api.FuncTanpi: "tanpi",
	api.FuncAsin: "asin", api.FuncAcos: "acos", api.FuncAtan: "atan", api.FuncAsinpi: "asinpi", api.FuncAcospi: "acospi", api.FuncAtanpi: "atanpi",
	api.FuncSinh: "sinh", api.FuncCosh: "cosh", api.FuncTanh: "tanh", api.FuncAsinh: "asinh", api.FuncAcosh: "acosh", api.FuncAtanh: "atanh",
	api.FuncCbrt: "cbrt", api.FuncRsqrt: "rsqrt",
	api.FuncAtan2: "atan2", api.FuncAtan2pi: "atan2pi", api.FuncPow: "pow", api.FuncHypot: "hypot",
}

// Name is a function's name.
func Name(f api.Func) string {
	if f >= api.FuncCount {
		return ""
	}
	return names[f]
}

// Find is the function with a name.
func Find(s string) (api.Func, bool) {
	for f := api.FuncExp; f < api.FuncCount; f++ {
		if spells(s, names[f]) {
			return f, true
		}
	}
	return api.FuncNone, false
}

// spells tells whether a text has the runes of a name, one after another. A name's runes are of one byte each: so a rune of the text stands where the name's does, and what is no UTF-8 is none of them.
func spells(text, name string) bool {
	read := 0
	for i, r := range text {
		if i >= len(name) || r != rune(name[i]) {
			return false
		}
		read++
	}
	return read == len(name)
}
