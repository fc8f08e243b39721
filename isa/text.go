package isa

import (
	"strconv"

	"quadrille/api"
)

// ordering tells what stands behind the name of an instruction with Aq or Rl.
func ordering(i api.Inst) string {
	switch {
	case i.Aq && i.Rl:
		return ".aqrl"
	case i.Aq:
		return ".aq"
	case i.Rl:
		return ".rl"
	}
	return ""
}

// x tells a register's name.
func x(register int) string { return "x" + strconv.Itoa(register) }

// number tells Imm with its sign.
func number(imm uint32) string { return strconv.Itoa(int(int32(imm))) }

// at tells a place in memory, so far from what a register has.
func at(far string, register int) string { return far + "(" + x(register) + ")" }

// The parts of each form's instructions as texts, in their order.

func noText(api.Inst) []string { return nil }

func upperText(i api.Inst) []string {
	return []string{x(i.Rd), strconv.FormatUint(uint64(i.Imm>>12), 10)}
}

func jumpText(i api.Inst) []string { return []string{x(i.Rd), number(i.Imm)} }

func immText(i api.Inst) []string { return []string{x(i.Rd), x(i.Rs1), number(i.Imm)} }

func loadText(i api.Inst) []string { return []string{x(i.Rd), at(number(i.Imm), i.Rs1)} }

func branchText(i api.Inst) []string { return []string{x(i.Rs1), x(i.Rs2), number(i.Imm)} }

func storeText(i api.Inst) []string { return []string{x(i.Rs2), at(number(i.Imm), i.Rs1)} }

func threeText(i api.Inst) []string { return []string{x(i.Rd), x(i.Rs1), x(i.Rs2)} }

func fenceText(i api.Inst) []string { return []string{number(i.Imm)} }

func amoText(i api.Inst) []string { return []string{x(i.Rd), x(i.Rs2), at("", i.Rs1)} }

func lrText(i api.Inst) []string { return []string{x(i.Rd), at("", i.Rs1)} }

func rdText(i api.Inst) []string { return []string{x(i.Rd)} }
