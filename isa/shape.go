package isa

import "oocore/api"

// shape is an operation's row: its format, and what stands in the bits that the format fixes.
type shape struct {
	format
	code, f, g uint32
}

// productGroup is the g by which products and quotients differ from the other operations of format R.
const productGroup = 1

// The rows stand in two tables, since one alone would be longer than a table at package level may be.

var baseShapes = [...]shape{
	api.Lui:    {formatU, 0x37, 0, 0},
	api.Auipc:  {formatU, 0x17, 0, 0},
	api.Jal:    {formatJ, 0x6f, 0, 0},
	api.Jalr:   {formatL, 0x67, 0, 0},
	api.Beq:    {formatB, 0x63, 0, 0},
	api.Bne:    {formatB, 0x63, 1, 0},
	api.Blt:    {formatB, 0x63, 4, 0},
	api.Bge:    {formatB, 0x63, 5, 0},
	api.Bltu:   {formatB, 0x63, 6, 0},
	api.Bgeu:   {formatB, 0x63, 7, 0},
	api.Lb:     {formatL, 0x03, 0, 0},
	api.Lh:     {formatL, 0x03, 1, 0},
	api.Lw:     {formatL, 0x03, 2, 0},
	api.Lbu:    {formatL, 0x03, 4, 0},
	api.Lhu:    {formatL, 0x03, 5, 0},
	api.Sb:     {formatS, 0x23, 0, 0},
	api.Sh:     {formatS, 0x23, 1, 0},
	api.Sw:     {formatS, 0x23, 2, 0},
	api.Addi:   {formatI, 0x13, 0, 0},
	api.Slti:   {formatI, 0x13, 2, 0},
	api.Sltiu:  {formatI, 0x13, 3, 0},
	api.Xori:   {formatI, 0x13, 4, 0},
	api.Ori:    {formatI, 0x13, 6, 0},
	api.Andi:   {formatI, 0x13, 7, 0},
	api.Slli:   {formatH, 0x13, 1, 0x00},
	api.Srli:   {formatH, 0x13, 5, 0x00},
	api.Srai:   {formatH, 0x13, 5, 0x20},
	api.Add:    {formatR, 0x33, 0, 0x00},
	api.Sub:    {formatR, 0x33, 0, 0x20},
	api.Sll:    {formatR, 0x33, 1, 0x00},
	api.Slt:    {formatR, 0x33, 2, 0x00},
	api.Sltu:   {formatR, 0x33, 3, 0x00},
	api.Xor:    {formatR, 0x33, 4, 0x00},
	api.Srl:    {formatR, 0x33, 5, 0x00},
	api.Sra:    {formatR, 0x33, 5, 0x20},
	api.Or:     {formatR, 0x33, 6, 0x00},
	api.And:    {formatR, 0x33, 7, 0x00},
	api.Mul:    {formatR, 0x33, 0, productGroup},
	api.Mulh:   {formatR, 0x33, 1, productGroup},
	api.Mulhsu: {formatR, 0x33, 2, productGroup},
	api.Mulhu:  {formatR, 0x33, 3, productGroup},
	api.Div:    {formatR, 0x33, 4, productGroup},
	api.Divu:   {formatR, 0x33, 5, productGroup},
	api.Rem:    {formatR, 0x33, 6, productGroup},
	api.Remu:   {formatR, 0x33, 7, productGroup},
}

// firstOther is the operation with which the second table begins.
const firstOther = api.LrW

var otherShapes = [...]shape{
	api.LrW - firstOther:     {formatK, 0x2f, 2, 0x02},
	api.ScW - firstOther:     {formatA, 0x2f, 2, 0x03},
	api.AmoSwap - firstOther: {formatA, 0x2f, 2, 0x01},
	api.AmoAdd - firstOther:  {formatA, 0x2f, 2, 0x00},
	api.AmoXor - firstOther:  {formatA, 0x2f, 2, 0x04},
	api.AmoAnd - firstOther:  {formatA, 0x2f, 2, 0x0c},
	api.AmoOr - firstOther:   {formatA, 0x2f, 2, 0x08},
	api.AmoMin - firstOther:  {formatA, 0x2f, 2, 0x10},
	api.AmoMax - firstOther:  {formatA, 0x2f, 2, 0x14},
	api.AmoMinu - firstOther: {formatA, 0x2f, 2, 0x18},
	api.AmoMaxu - firstOther: {formatA, 0x2f, 2, 0x1c},
	api.Fence - firstOther:   {formatF, 0x0f, 0, 0},
	api.Ecall - firstOther:   {formatN, 0x73, 0, 0x000},
	api.Ebreak - firstOther:  {formatN, 0x73, 0, 0x001},
	api.Mret - firstOther:    {formatN, 0x73, 0, 0x302},
	api.Wfi - firstOther:     {formatN, 0x73, 0, 0x105},
	api.Csrrw - firstOther:   {formatC, 0x73, 1, 0},
	api.Csrrs - firstOther:   {formatC, 0x73, 2, 0},
	api.Csrrc - firstOther:   {formatC, 0x73, 3, 0},
	api.Csrrwi - firstOther:  {formatD, 0x73, 5, 0},
	api.Csrrsi - firstOther:  {formatD, 0x73, 6, 0},
	api.Csrrci - firstOther:  {formatD, 0x73, 7, 0},
}

// shapeOf gives a number that is no operation the shape without a format.
func shapeOf(op api.Op) shape {
	switch {
	case op <= api.Illegal || op > api.Csrrci:
		return shape{}
	case op < firstOther:
		return baseShapes[op]
	}
	return otherShapes[op-firstOther]
}

func (s shape) bits() uint32 { return s.code | s.f<<fAt | s.g<<s.gPlace() }

func (s shape) matches(word uint32) bool { return word&s.fixed() == s.bits() }
